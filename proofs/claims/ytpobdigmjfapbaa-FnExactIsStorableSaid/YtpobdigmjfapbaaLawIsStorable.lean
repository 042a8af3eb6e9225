/-
  IsStorable answers as its model says, for all states of trainings, and changes none of them. Conditions: none.
-/
import Derived.Test.YtpobdigmjfapbaaStu
import Derived.ChangeOld
import Derived.Below
namespace Go.Proofs.Ytpobdigmjfapbaa.fnExactIsStorable
open Go.ChangeShapes Go.WideShapes Go.ChangeAt Go.RowKit
open Go.ChangeMaps (open_string shut_string)
set_option linter.unusedVariables false

theorem walk (v0 : Value) (w : World) (w0 : ∃ q : TrsA, v0 = .agg q.cells ∧ TrsAt w q) :
    Calls Try.prog 3 #[v0] w fun e w' => e = .returned (.bool true) ∧ Below w.heap.size w w' := by
  obtain ⟨q, rfl, hq⟩ := w0
  obtain ⟨a0, a1, a2, a3, a4, a5, a6, a7, a8, ha⟩ := cells5 q
  rw [ha]
  have HQ := Lib.hid hq
  have CA := Lib.hid ha
  have K1_0 := Lib.hid (Blk.new w 28 #[.slice a0 a1 a2, .slice a3 a4 a5, .int .i64 a6, .int .i64 a7, .float .f32 a8])
  have B_0 := Lib.hid ((Below.refl w.heap.size w).alloc (Nat.le_refl _) (.cells #[.slice a0 a1 a2, .slice a3 a4 a5, .int .i64 a6, .int .i64 a7, .float .f32 a8] 28))
  clear hq
  by_cases hL : trsSum q ≤ 1048576
  case neg =>
    have HN := Lib.hid (fun w1 (hb : Below w.heap.size w w1) => c_szTrs_no q 1048576 w1 (HQ.out.kept hb) (Nat.le_refl _) (by omega))
    rw [ha] at HN
    clear hL ha
    go_enter Try.func3, Try.ntmps3
    go_wp2_with fail
    generalize w.alloc (.cells #[.slice a0 a1 a2, .slice a3 a4 a5, .int .i64 a6, .int .i64 a7, .float .f32 a8] 28) = w1 at K1_0 B_0 ⊢
    obtain ⟨pK10, pK11, pK12, pK13, pK14, pK15⟩ := tbt5 K1_0.out
    go_wp2_with fail
    clear pK10 pK11 pK12 pK13 pK14 pK15
    refine (HN.out _ B_0.out).mono ?_
    rintro e w2 ⟨rfl, hb⟩
    have B2 := Lib.hid (Below.next B_0.out hb)
    clear hb
    go_wp2_with fail
    go_ret
    exact ⟨rfl, B2.out⟩
  case pos =>
    obtain ⟨l, hl⟩ : ∃ l, 1048576 - trsSum q = l := ⟨_, rfl⟩
    have hl0 : (0 : Int) ≤ (l : Int) := by omega
    have HZ := Lib.hid (fun w1 (hb : Below w.heap.size w w1) => c_szTrs q 1048576 l w1 (HQ.out.kept hb) (Nat.le_refl _) hL hl)
    have HA := Lib.hid (fun w1 (hb : Below w.heap.size w w1) => c_toTrs' q w1 (HQ.out.kept hb) hL)
    rw [ha] at HZ HA
    obtain ⟨s, hs⟩ : ∃ s, stbB q = s := ⟨_, rfl⟩
    have HS := Lib.hid hs
    have val_of := Lib.hid (fun r (h : TrsEq r q) => stbB_of h)
    have TS := Lib.hid (fun rr w h => t_sIsStorable rr w h)
    have TI := Lib.hid (fun rr w h => t_iIsStorable rr w h)
    clear hL hl ha hs
    go_enter Try.func3, Try.ntmps3
    go_wp2_with fail
    generalize w.alloc (.cells #[.slice a0 a1 a2, .slice a3 a4 a5, .int .i64 a6, .int .i64 a7, .float .f32 a8] 28) = w1 at K1_0 B_0 ⊢
    obtain ⟨pK10, pK11, pK12, pK13, pK14, pK15⟩ := tbt5 K1_0.out
    go_wp2_with fail
    clear pK10 pK11 pK12 pK13 pK14 pK15
    refine (HZ.out _ B_0.out).mono ?_
    rintro e w2 ⟨rfl, bl⟩
    have K1_2 := Lib.hid (K1_0.out.below bl)
    clear K1_0
    have B_2 := Lib.hid (Below.next B_0.out bl)
    clear B_0
    clear bl
    obtain ⟨pK10, pK11, pK12, pK13, pK14, pK15⟩ := tbt5 K1_2.out
    go_wp2_with fail
    clear pK10 pK11 pK12 pK13 pK14 pK15
    refine (HA.out _ B_2.out).mono ?_
    rintro e w3 ⟨rc, rfl, ht, ho, bl⟩
    have K1_3 := Lib.hid (K1_2.out.below bl)
    clear K1_2
    have B_3 := Lib.hid (Below.next B_2.out bl)
    clear B_2
    clear bl
    obtain ⟨c0, c1, c2, c3, c4, c5, c6, c7, c8, Hcc⟩ := cells5 rc
    have Cc := Lib.hid Hcc
    have Ec := Lib.hid ht
    rw [Hcc]
    have Oc_3 := Lib.hid ho
    clear Hcc ht ho
    go_wp2_with fail
    have hc := TS.out rc _ Oc_3.out.at
    rw [Cc.out, val_of.out _ Ec.out, HS.out] at hc
    refine hc.mono ?_
    rintro e w4 ⟨rfl, bl⟩
    have K1_4 := Lib.hid (K1_3.out.below bl)
    clear K1_3
    have B_4 := Lib.hid (Below.next B_3.out bl)
    clear B_3
    have Oc_4 := Lib.hid (Oc_3.out.kept bl)
    clear Oc_3
    clear bl hc
    clear Oc_4
    obtain ⟨pK10, pK11, pK12, pK13, pK14, pK15⟩ := tbt5 K1_4.out
    go_wp2_with fail
    clear pK10 pK11 pK12 pK13 pK14 pK15
    refine (HA.out _ B_4.out).mono ?_
    rintro e w5 ⟨rx, rfl, ht, ho, bl⟩
    have K1_5 := Lib.hid (K1_4.out.below bl)
    clear K1_4
    have B_5 := Lib.hid (Below.next B_4.out bl)
    clear B_4
    clear bl
    obtain ⟨x0, x1, x2, x3, x4, x5, x6, x7, x8, Hxc⟩ := cells5 rx
    have Cx := Lib.hid Hxc
    have Ex := Lib.hid ht
    rw [Hxc]
    have Ox_5 := Lib.hid ho
    clear Hxc ht ho
    go_wp2_with fail
    have bl := (Below.refl w5.heap.size w5).alloc (Nat.le_refl _) (.cells #[.slice x0 x1 x2, .slice x3 x4 x5, .int .i64 x6, .int .i64 x7, .float .f32 x8] 35)
    have KX_6 := Lib.hid (Blk.new w5 35 #[.slice x0 x1 x2, .slice x3 x4 x5, .int .i64 x6, .int .i64 x7, .float .f32 x8])
    have K1_6 := Lib.hid (K1_5.out.below bl)
    clear K1_5
    have B_6 := Lib.hid (Below.next B_5.out bl)
    clear B_5
    have Ox_6 := Lib.hid (Ox_5.out.kept bl)
    clear Ox_5
    clear bl
    generalize w5.alloc (.cells #[.slice x0 x1 x2, .slice x3 x4 x5, .int .i64 x6, .int .i64 x7, .float .f32 x8] 35) = w6 at K1_6 B_6 Ox_6 KX_6 ⊢
    obtain ⟨pKX0, pKX1, pKX2, pKX3, pKX4, pKX5⟩ := tbt5 KX_6.out
    go_wp2_with fail
    clear pKX0 pKX1 pKX2 pKX3 pKX4 pKX5
    have hc := TI.out rx _ Ox_6.out.at
    rw [Cx.out, val_of.out _ Ex.out, HS.out] at hc
    refine hc.mono ?_
    rintro e w7 ⟨rfl, bl⟩
    have K1_7 := Lib.hid (K1_6.out.below bl)
    clear K1_6
    have B_7 := Lib.hid (Below.next B_6.out bl)
    clear B_6
    have Ox_7 := Lib.hid (Ox_6.out.kept bl)
    clear Ox_6
    have KX_7 := Lib.hid (KX_6.out.below bl)
    clear KX_6
    clear bl hc
    obtain ⟨pKX0, pKX1, pKX2, pKX3, pKX4, pKX5⟩ := tbt5 KX_7.out
    obtain ⟨pK10, pK11, pK12, pK13, pK14, pK15⟩ := tbt5 K1_7.out
    go_wp2_with fail
    clear pKX0 pKX1 pKX2 pKX3 pKX4 pKX5
    clear pK10 pK11 pK12 pK13 pK14 pK15
    have bl : Below w7.heap.size w7 w7.drew := (Below.refl _ _).drew
    have K1_8 := Lib.hid (K1_7.out.below bl)
    clear K1_7
    have B_8 := Lib.hid (Below.next B_7.out bl)
    clear B_7
    have Ox_8 := Lib.hid (Ox_7.out.kept bl)
    clear Ox_7
    have KX_8 := Lib.hid (KX_7.out.below bl)
    clear KX_7
    clear bl
    obtain ⟨pKX0, pKX1, pKX2, pKX3, pKX4, pKX5⟩ := tbt5 KX_8.out
    obtain ⟨pK10, pK11, pK12, pK13, pK14, pK15⟩ := tbt5 K1_8.out
    go_region_held3 (fun w' => w'.cell? ⟨w5.heap.size, 0, none⟩ = some (.slice x0 x1 x2) ∧ w'.cell? ⟨w5.heap.size, 1, none⟩ = some (.slice x3 x4 x5) ∧ w'.cell? ⟨w5.heap.size, 2, none⟩ = some (.int .i64 x6) ∧ w'.cell? ⟨w5.heap.size, 3, none⟩ = some (.int .i64 x7) ∧ w'.cell? ⟨w5.heap.size, 4, none⟩ = some (.float .f32 x8) ∧ w'.cell? ⟨w.heap.size, 0, none⟩ = some (.slice a0 a1 a2) ∧ w'.cell? ⟨w.heap.size, 1, none⟩ = some (.slice a3 a4 a5) ∧ w'.cell? ⟨w.heap.size, 2, none⟩ = some (.int .i64 a6) ∧ w'.cell? ⟨w.heap.size, 3, none⟩ = some (.int .i64 a7) ∧ w'.cell? ⟨w.heap.size, 4, none⟩ = some (.float .f32 a8)) (go_keep)
      (first
        | (go_at_call 9
           refine (HA.out _ B_8.out).mono ?_
           rintro e w9 ⟨rxz, rfl, ht, ho, bl⟩
           have K1_9 := Lib.hid (K1_8.out.below bl)
           clear K1_8
           have B_9 := Lib.hid (Below.next B_8.out bl)
           clear B_8
           have Ox_9 := Lib.hid (Ox_8.out.kept bl)
           clear Ox_8
           have KX_9 := Lib.hid (KX_8.out.below bl)
           clear KX_8
           clear bl
           obtain ⟨xz0, xz1, xz2, xz3, xz4, xz5, xz6, xz7, xz8, Hxzc⟩ := cells5 rxz
           have Cxz := Lib.hid Hxzc
           have Exz := Lib.hid ht
           rw [Hxzc]
           have Oxz_9 := Lib.hid ho
           clear Hxzc ht ho
           obtain ⟨pKX0, pKX1, pKX2, pKX3, pKX4, pKX5⟩ := tbt5 KX_9.out
           obtain ⟨pK10, pK11, pK12, pK13, pK14, pK15⟩ := tbt5 K1_9.out)
        | (go_at_call 11
           have hc := c_eqTrs' rx rxz _ Ox_9.out.at Oxz_9.out.at (Ex.out.trans Exz.out.symm)
           rw [Cx.out, Cxz.out] at hc
           refine hc.mono ?_
           rintro e w10 ⟨rfl, bl⟩
           have K1_10 := Lib.hid (K1_9.out.below bl)
           clear K1_9
           have B_10 := Lib.hid (Below.next B_9.out bl)
           clear B_9
           have Ox_10 := Lib.hid (Ox_9.out.kept bl)
           clear Ox_9
           have KX_10 := Lib.hid (KX_9.out.below bl)
           clear KX_9
           have Oxz_10 := Lib.hid (Oxz_9.out.kept bl)
           clear Oxz_9
           clear bl hc
           obtain ⟨pKX0, pKX1, pKX2, pKX3, pKX4, pKX5⟩ := tbt5 KX_10.out
           obtain ⟨pK10, pK11, pK12, pK13, pK14, pK15⟩ := tbt5 K1_10.out))
    clear pKX0 pKX1 pKX2 pKX3 pKX4 pKX5
    clear pK10 pK11 pK12 pK13 pK14 pK15
    go_wp2_with fail
    go_ret
    exact ⟨rfl, B_10.out⟩

/-! the row's step -/
set_option maxRecDepth 100000 in
theorem lifted (os : Os) (started : os.Started) (H : Type) (enc : TypeId × Value → H) :
    ReturnsInHanded {} Try.checked os 3 .any (Rows.fnExactIsStorableSpec.pre6 enc Try.prog Try.f3 Rows.fnExactIsStorableRow.domain false) (Rows.fnExactIsStorableSpec.post enc Try.prog Try.f3 false true false false) := by
  refine returnsInHanded_of_change (C := Try.checked) own started (by kernel_rfl) Try.func3
    (ChangeSpec.witness6 (enc := enc) (C := Try.checked) false ⟨#[], #[.agg #[.slice none 0 0, .slice none 0 0, .int .i64 0, .int .i64 0, .float .f32 0]], []⟩ 8 (by kernel_rfl) (by kernel_rfl) (by kernel_rfl) (by kernel_rfl)) ?_
  intro W base args ds gs before hval0 hW hcnd _
  have hval : ∀ (j : Nat) t v, Try.f3.params[j]? = some t → args[j]? = some v → Value.okWide Try.prog W .any base t v := hval0
  have hW' := hW
  obtain ⟨p, q, hA0, hV, rfl, hfz, hnd⟩ := hW
  have hA : DataW.TrodAll enc Try.prog W 0 (fun _ => true) true Try.f3.params.toList args.toList ds p := hA0
  rw [Try.params3] at hA hval
  obtain ⟨v0, vs0, d0, ds0, p0, q0, hargs, rfl, rfl, h0, rest0⟩ := trodAll_cons hA
  obtain ⟨rfl, rfl, rfl⟩ := trodAll_nil rest0
  obtain rfl : args = #[v0] := by cases args; simp_all
  obtain ⟨rfl, rfl⟩ := trodVars_none hV
  have k0 := h0
  have lt0 : ∀ x ∈ p0, x.block < W.heap.size := by obtain ⟨m, hm⟩ := k0; exact DataW.trod_lt m _ _ _ hm
  have w0 := open_Trs (hval 0 28 v0 rfl rfl) h0
  clear hA0 hval0
  refine (walk _ W w0).mono fun e W' ⟨he, bel⟩ => ?_
  subst he
  exact ⟨_, rfl, _, _, _, [], _, [], hW', trodAll_mk1 (shut_bool Try.underlying4 _), (trodAll_cons_mk (Below.trod laidOut (by kernel_rfl) (of_decide_eq_true (by kernel_rfl)) k0 bel lt0) trodAll_mk0), rfl, bel.frame _, fun h => by cases h⟩

theorem over : Rows.fnExactIsStorableRow.holds Try.pinned (OpenSpec.ofChange Rows.fnExactIsStorableSpec) :=
  OpenClaim.holds_of_wide 3 Try.f3 rfl rfl rfl rfl rfl rfl rfl ⟨rfl, rfl, rfl, rfl, rfl⟩ rfl rfl rfl rfl rfl (by kernel_rfl) Try.func3 (by kernel_rfl)
    (of_decide_eq_true (by kernel_rfl)) (by unfold Func.isWrapper; first | (rw [if_pos (by decide +kernel)]; kernel_rfl) | (rw [if_neg (by decide +kernel)]; exact ⟨rfl, rfl⟩))
    (fun os started H enc _ => lifted os started H enc)

/-- the statement -/
theorem proved : Rows.FnExactIsStorableSaid := over
end Go.Proofs.Ytpobdigmjfapbaa.fnExactIsStorable
