/-
  IsWhole answers what the model says, of any layer and limit, and changes nothing of the layer.
-/
import Derived.Test.YtkpcjjnaocdelaaWhu
import Derived.ChangeOld
import Derived.Below
namespace Go.Proofs.Ytkpcjjnaocdelaa.fnExactIsWhole
open Go.ChangeShapes Go.WideShapes Go.ChangeAt Go.RowKit
open Go.ChangeMaps (open_string shut_string)
set_option linter.unusedVariables false

set_option maxHeartbeats 4000000 in
set_option maxRecDepth 100000 in
/-- for any contracts of the model and of the program that say the same -/
theorem core (k0 i0 o0 : Int) (ws0 bs0 : List Nat) (v1 : Int) (a0 b0 : Option Addr) (c0 d0 : Nat)  (w : World) (w0' : IsFloats .f32 w a0 ws0.length c0 ws0 ∧ IsFloats .f32 w b0 bs0.length d0 bs0) (b : Bool) (hL0 : (ws0.length + bs0.length) ≤ 1048576) 
    (CS' : ∀ (a0 b0 : Option Addr) (c0 d0 : Nat) (w : World), (IsFloats .f32 w a0 ws0.length c0 ws0 ∧ IsFloats .f32 w b0 bs0.length d0 bs0) → Calls Try.prog 43 #[.agg #[.int .i64 k0, .int .i64 i0, .int .i64 o0, .slice a0 ws0.length c0, .slice b0 bs0.length d0], .int .i64 v1] w (RetB b w))
    (CI' : ∀ (a0 b0 : Option Addr) (c0 d0 : Nat) (w : World), (IsFloats .f32 w a0 ws0.length c0 ws0 ∧ IsFloats .f32 w b0 bs0.length d0 bs0) → Calls Try.prog 44 #[.agg #[.int .i64 k0, .int .i64 i0, .int .i64 o0, .slice a0 ws0.length c0, .slice b0 bs0.length d0], .int .i64 v1] w (RetB b w)) :
    Calls Try.prog 9 #[.agg #[.int .i64 k0, .int .i64 i0, .int .i64 o0, .slice a0 ws0.length c0, .slice b0 bs0.length d0], .int .i64 v1] w fun e w' => e = .returned (.bool true) ∧ Below w.heap.size w w' := by
  have HS0 := Lib.hid w0'
  have HZ0 := Lib.hid (show ws0.length + bs0.length ≤ 1048576 by omega)
  have CS := Lib.hid CS'
  have CI := Lib.hid CI'
  obtain ⟨l0, hl0⟩ : ∃ l, 1048576 - (ws0.length + bs0.length) = l := ⟨_, rfl⟩
  have hl0' : l0 ≤ 1048576 := by omega
  have HQ0 := Lib.hid (show ws0.length + bs0.length ≤ 1048576 by omega)
  have HE0 := Lib.hid hl0
  have hp0 : (0 : Int) ≤ (l0 : Int) := by omega
  clear w0' CS' CI' hl0 hL0
  go_enter Try.func9, Try.ntmps9
  go_wp2_with fail
  have B_0 := Lib.hid (Below.refl w.heap.size w)
  have bl := (Below.refl (w).heap.size (w)).alloc (Nat.le_refl _) (.cells #[.int .i64 k0, .int .i64 i0, .int .i64 o0, .slice a0 ws0.length c0, .slice b0 bs0.length d0] 57)
  have K0_1 := Lib.hid (Blk.new (w) 57 #[.int .i64 k0, .int .i64 i0, .int .i64 o0, .slice a0 ws0.length c0, .slice b0 bs0.length d0])
  have B_1 := Lib.hid (Below.next B_0.out bl)
  clear B_0
  clear bl
  generalize (w).alloc (.cells #[.int .i64 k0, .int .i64 i0, .int .i64 o0, .slice a0 ws0.length c0, .slice b0 bs0.length d0] 57) = w1 at B_1 K0_1 ⊢
  refine (c_szLay _ _ _ _ _ _ _ _ _ _ _ _ HQ0.out (Nat.le_refl _) HE0.out).mono ?_
  rintro e w2 ⟨rfl, bl⟩
  have B_2 := Lib.hid (Below.next B_1.out bl)
  clear B_1
  have K0_2 := Lib.hid (K0_1.out.below bl)
  clear K0_1
  clear bl
  obtain ⟨pK00, pK01, pK02, pK03, pK04, pK0l⟩ := tb5 K0_2.out
  go_wp2_with fail
  clear pK00 pK01 pK02 pK03 pK04 pK0l
  refine (c_toLay k0 i0 o0 _ _ _ _ ws0 bs0 _ (And.intro (HS0.out.1.kept B_2.out) (HS0.out.2.kept B_2.out)).1 (by have := HZ0.out; omega) (And.intro (HS0.out.1.kept B_2.out) (HS0.out.2.kept B_2.out)).2 (by have := HZ0.out; omega)).mono ?_
  rintro e w3 ⟨aT0, bT0, rfl, h0, h1, hap, bl⟩
  have ho := (LayA.own_iff (x := (⟨⟨k0, i0, o0, ws0, bs0⟩, aT0, ws0.length, bT0, bs0.length⟩ : LayA))).2 ⟨h0, h1⟩
  have T0_3 := Lib.hid (OwnL.base B_2.out.size _ ho)
  have B_3 := Lib.hid (Below.next B_2.out bl)
  clear B_2
  have K0_3 := Lib.hid (K0_2.out.below bl)
  clear K0_2
  clear h0 h1 hap ho
  clear bl
  obtain ⟨pK00, pK01, pK02, pK03, pK04, pK0l⟩ := tb5 K0_3.out
  go_wp2_with fail
  clear pK00 pK01 pK02 pK03 pK04 pK0l
  refine (CS.out _ _ _ _ _ ((LayA.at_iff (x := (⟨⟨k0, i0, o0, ws0, bs0⟩, aT0, ws0.length, bT0, bs0.length⟩ : LayA))).1 (OwnL.at _ T0_3.out))).mono ?_
  rintro e w4 ⟨rfl, bl⟩
  have B_4 := Lib.hid (Below.next B_3.out bl)
  clear B_3
  have K0_4 := Lib.hid (K0_3.out.below bl)
  clear K0_3
  have T0_4 := Lib.hid (OwnL.kept T0_3.out bl)
  clear T0_3
  clear bl
  clear T0_4
  obtain ⟨pK00, pK01, pK02, pK03, pK04, pK0l⟩ := tb5 K0_4.out
  go_wp2_with fail
  clear pK00 pK01 pK02 pK03 pK04 pK0l
  refine (c_toLay k0 i0 o0 _ _ _ _ ws0 bs0 _ (And.intro (HS0.out.1.kept B_4.out) (HS0.out.2.kept B_4.out)).1 (by have := HZ0.out; omega) (And.intro (HS0.out.1.kept B_4.out) (HS0.out.2.kept B_4.out)).2 (by have := HZ0.out; omega)).mono ?_
  rintro e w5 ⟨aX0, bX0, rfl, h0, h1, hap, bl⟩
  have ho := (LayA.own_iff (x := (⟨⟨k0, i0, o0, ws0, bs0⟩, aX0, ws0.length, bX0, bs0.length⟩ : LayA))).2 ⟨h0, h1⟩
  have X0_5 := Lib.hid (OwnL.base B_4.out.size _ ho)
  have B_5 := Lib.hid (Below.next B_4.out bl)
  clear B_4
  have K0_5 := Lib.hid (K0_4.out.below bl)
  clear K0_4
  clear h0 h1 hap ho
  clear bl
  obtain ⟨pK00, pK01, pK02, pK03, pK04, pK0l⟩ := tb5 K0_5.out
  go_wp2_with fail
  clear pK00 pK01 pK02 pK03 pK04 pK0l
  have bl := (Below.refl w5.heap.size w5).alloc (Nat.le_refl _) (.cells #[.int .i64 k0, .int .i64 i0, .int .i64 o0, .slice aX0 ws0.length ws0.length, .slice bX0 bs0.length bs0.length] 59)
  have XB0_6 := Lib.hid (Blk.new w5 59 #[.int .i64 k0, .int .i64 i0, .int .i64 o0, .slice aX0 ws0.length ws0.length, .slice bX0 bs0.length bs0.length])
  have B_6 := Lib.hid (Below.next B_5.out bl)
  clear B_5
  have K0_6 := Lib.hid (K0_5.out.below bl)
  clear K0_5
  have X0_6 := Lib.hid (OwnL.kept X0_5.out bl)
  clear X0_5
  clear bl
  generalize w5.alloc (.cells #[.int .i64 k0, .int .i64 i0, .int .i64 o0, .slice aX0 ws0.length ws0.length, .slice bX0 bs0.length bs0.length] 59) = w6 at B_6 K0_6 X0_6 XB0_6 ⊢
  obtain ⟨pK00, pK01, pK02, pK03, pK04, pK0l⟩ := tb5 K0_6.out
  obtain ⟨pXB00, pXB01, pXB02, pXB03, pXB04, pXB0l⟩ := tb5 XB0_6.out
  try go_wp2_with fail
  clear pK00 pK01 pK02 pK03 pK04 pK0l pXB00 pXB01 pXB02 pXB03 pXB04 pXB0l
  refine (CI.out _ _ _ _ _ ((LayA.at_iff (x := (⟨⟨k0, i0, o0, ws0, bs0⟩, aX0, ws0.length, bX0, bs0.length⟩ : LayA))).1 (OwnL.at _ X0_6.out))).mono ?_
  rintro e w7 ⟨rfl, bl⟩
  have B_7 := Lib.hid (Below.next B_6.out bl)
  clear B_6
  have K0_7 := Lib.hid (K0_6.out.below bl)
  clear K0_6
  have X0_7 := Lib.hid (OwnL.kept X0_6.out bl)
  clear X0_6
  have XB0_7 := Lib.hid (XB0_6.out.below bl)
  clear XB0_6
  clear bl
  obtain ⟨pK00, pK01, pK02, pK03, pK04, pK0l⟩ := tb5 K0_7.out
  obtain ⟨pXB00, pXB01, pXB02, pXB03, pXB04, pXB0l⟩ := tb5 XB0_7.out
  go_wp2_with fail
  clear pK00 pK01 pK02 pK03 pK04 pK0l pXB00 pXB01 pXB02 pXB03 pXB04 pXB0l
  have bl : Below w7.heap.size w7 w7.drew := (Below.refl _ _).drew
  have B_8 := Lib.hid (Below.next B_7.out bl)
  clear B_7
  have K0_8 := Lib.hid (K0_7.out.below bl)
  clear K0_7
  have X0_8 := Lib.hid (OwnL.kept X0_7.out bl)
  clear X0_7
  have XB0_8 := Lib.hid (XB0_7.out.below bl)
  clear XB0_7
  clear bl
  obtain ⟨pK00, pK01, pK02, pK03, pK04, pK0l⟩ := tb5 K0_8.out
  obtain ⟨pXB00, pXB01, pXB02, pXB03, pXB04, pXB0l⟩ := tb5 XB0_8.out
  go_region_held3 (fun w' => w'.cell? ⟨w.heap.size, 0, none⟩ = some (.int .i64 k0) ∧ w'.cell? ⟨w.heap.size, 1, none⟩ = some (.int .i64 i0) ∧ w'.cell? ⟨w.heap.size, 2, none⟩ = some (.int .i64 o0) ∧ w'.cell? ⟨w.heap.size, 3, none⟩ = some (.slice a0 ws0.length c0) ∧ w'.cell? ⟨w.heap.size, 4, none⟩ = some (.slice b0 bs0.length d0) ∧ w'.cell? ⟨w5.heap.size, 0, none⟩ = some (.int .i64 k0) ∧ w'.cell? ⟨w5.heap.size, 1, none⟩ = some (.int .i64 i0) ∧ w'.cell? ⟨w5.heap.size, 2, none⟩ = some (.int .i64 o0) ∧ w'.cell? ⟨w5.heap.size, 3, none⟩ = some (.slice aX0 ws0.length ws0.length) ∧ w'.cell? ⟨w5.heap.size, 4, none⟩ = some (.slice bX0 bs0.length bs0.length)) (go_keep)
    (first
      | (go_at_call 38
         clear pK00 pK01 pK02 pK03 pK04 pK0l pXB00 pXB01 pXB02 pXB03 pXB04 pXB0l
         refine (c_toLay k0 i0 o0 _ _ _ _ ws0 bs0 _ (And.intro (HS0.out.1.kept B_8.out) (HS0.out.2.kept B_8.out)).1 (by have := HZ0.out; omega) (And.intro (HS0.out.1.kept B_8.out) (HS0.out.2.kept B_8.out)).2 (by have := HZ0.out; omega)).mono ?_
         rintro e w9 ⟨aY0, bY0, rfl, h0, h1, hap, bl⟩
         have ho := (LayA.own_iff (x := (⟨⟨k0, i0, o0, ws0, bs0⟩, aY0, ws0.length, bY0, bs0.length⟩ : LayA))).2 ⟨h0, h1⟩
         have Y0_9 := Lib.hid (OwnL.base B_8.out.size _ ho)
         have B_9 := Lib.hid (Below.next B_8.out bl)
         clear B_8
         have K0_9 := Lib.hid (K0_8.out.below bl)
         clear K0_8
         have X0_9 := Lib.hid (OwnL.kept X0_8.out bl)
         clear X0_8
         have XB0_9 := Lib.hid (XB0_8.out.below bl)
         clear XB0_8
         clear h0 h1 hap ho
         clear bl
         obtain ⟨pK00, pK01, pK02, pK03, pK04, pK0l⟩ := tb5 K0_9.out
         obtain ⟨pXB00, pXB01, pXB02, pXB03, pXB04, pXB0l⟩ := tb5 XB0_9.out)
      | (go_at_call 40
         clear pK00 pK01 pK02 pK03 pK04 pK0l pXB00 pXB01 pXB02 pXB03 pXB04 pXB0l
         refine (c_eqLay k0 i0 o0 _ _ _ _ _ _ _ _ ws0 ws0 bs0 bs0 _ ((LayA.at_iff (x := (⟨⟨k0, i0, o0, ws0, bs0⟩, aX0, ws0.length, bX0, bs0.length⟩ : LayA))).1 (OwnL.at _ X0_9.out)).1 ((LayA.at_iff (x := (⟨⟨k0, i0, o0, ws0, bs0⟩, aY0, ws0.length, bY0, bs0.length⟩ : LayA))).1 (OwnL.at _ Y0_9.out)).1 rfl ((LayA.at_iff (x := (⟨⟨k0, i0, o0, ws0, bs0⟩, aX0, ws0.length, bX0, bs0.length⟩ : LayA))).1 (OwnL.at _ X0_9.out)).2 ((LayA.at_iff (x := (⟨⟨k0, i0, o0, ws0, bs0⟩, aY0, ws0.length, bY0, bs0.length⟩ : LayA))).1 (OwnL.at _ Y0_9.out)).2 rfl).mono ?_
         rintro e w10 ⟨rfl, bl⟩
         have B_10 := Lib.hid (Below.next B_9.out bl)
         clear B_9
         have K0_10 := Lib.hid (K0_9.out.below bl)
         clear K0_9
         have X0_10 := Lib.hid (OwnL.kept X0_9.out bl)
         clear X0_9
         have XB0_10 := Lib.hid (XB0_9.out.below bl)
         clear XB0_9
         have Y0_10 := Lib.hid (OwnL.kept Y0_9.out bl)
         clear Y0_9
         clear bl
         obtain ⟨pK00, pK01, pK02, pK03, pK04, pK0l⟩ := tb5 K0_10.out
         obtain ⟨pXB00, pXB01, pXB02, pXB03, pXB04, pXB0l⟩ := tb5 XB0_10.out))
  clear pK00 pK01 pK02 pK03 pK04 pK0l pXB00 pXB01 pXB02 pXB03 pXB04 pXB0l
  clear Y0_10
  obtain ⟨pK00, pK01, pK02, pK03, pK04, pK0l⟩ := tb5 K0_10.out
  obtain ⟨pXB00, pXB01, pXB02, pXB03, pXB04, pXB0l⟩ := tb5 XB0_10.out
  go_wp2_with fail
  clear pK00 pK01 pK02 pK03 pK04 pK0l pXB00 pXB01 pXB02 pXB03 pXB04 pXB0l
  go_ret
  exact ⟨rfl, B_10.out⟩

theorem walk (v0 : Value) (a1 : Int) (w : World) (w0 : ∃ x : LayA, v0 = .agg x.cells ∧ AtL w x.cs) (w1 : (Lit.int .i64 a1).wf = true) :
    Calls Try.prog 9 #[v0, .int .i64 a1] w fun e w' => e = .returned (.bool true) ∧ Below w.heap.size w w' := by
  obtain ⟨⟨⟨k0, i0, o0, ws0, bs0⟩, a0, c0, b0, d0⟩, rfl, w0⟩ := w0
  rw [LayA.at_iff] at w0
  dsimp only at w0
  dsimp only [LayA.cells]
  have n0 : ws0.length ≤ 9223372036854775807 := by have h1 := w0.1.1; have h2 := w0.1.2.1; unfold maxLen at h2; omega
  have n0' : bs0.length ≤ 9223372036854775807 := by have h1 := w0.2.1; have h2 := w0.2.2.1; unfold maxLen at h2; omega
  obtain ⟨v1, rfl⟩ : ∃ v, v = a1 := ⟨_, rfl⟩
  by_cases hL0 : (ws0.length + bs0.length) ≤ 1048576
  case neg =>
    have HN := Lib.hid (show 1048576 < ws0.length + bs0.length by omega)
    have HS := Lib.hid w0
    have bl := Lib.hid (((Below.refl w.heap.size w).alloc (by simp) (.cells #[.int .i64 k0, .int .i64 i0, .int .i64 o0, .slice a0 ws0.length c0, .slice b0 bs0.length d0] 57)))
    clear hL0 w0
    go_enter Try.func9, Try.ntmps9
    go_wp2_with fail
    refine (c_szLay_no _ _ _ _ _ _ _ _ _ 1048576 _ HN.out (Nat.le_refl _) n0 n0').mono ?_
    rintro e w1 ⟨rfl, hb⟩
    have HB := Lib.hid (Below.next bl.out hb)
    clear hb bl
    go_wp2
    go_ret
    exact ⟨rfl, HB.out⟩
  case pos =>
    exact core k0 i0 o0 ws0 bs0 v1 a0 b0 c0 d0  w w0 (vIsWhole k0 i0 o0 ws0 bs0 v1) hL0  (fun a0_ b0_ c0_ d0_  w h0  => t_sIsWhole k0 i0 o0 ws0 bs0 a0_ b0_ c0_ d0_ v1 w h0 ) (fun a0_ b0_ c0_ d0_  w h0  => t_iIsWhole k0 i0 o0 ws0 bs0 a0_ b0_ c0_ d0_ v1 w h0 )

/-! the row's step -/
set_option maxRecDepth 100000 in
theorem lifted (os : Os) (started : os.Started) (H : Type) (enc : TypeId × Value → H) :
    ReturnsInHanded {} Try.checked os 9 .any (Rows.fnExactIsWholeSpec.pre6 enc Try.prog Try.f9 Rows.fnExactIsWholeRow.domain false) (Rows.fnExactIsWholeSpec.post enc Try.prog Try.f9 false true false false) := by
  refine returnsInHanded_of_change (C := Try.checked) own started (by kernel_rfl) Try.func9
    (ChangeSpec.witness6 (enc := enc) (C := Try.checked) false ⟨#[], #[.agg #[.int .i64 0, .int .i64 0, .int .i64 0, .slice none 0 0, .slice none 0 0], .int .i64 0], []⟩ 8 (by kernel_rfl) (by kernel_rfl) (by kernel_rfl) (by kernel_rfl)) ?_
  intro W base args ds gs before hval0 hW hcnd _
  have hval : ∀ (j : Nat) t v, Try.f9.params[j]? = some t → args[j]? = some v → Value.okWide Try.prog W .any base t v := hval0
  have hW' := hW
  obtain ⟨p, q, hA0, hV, rfl, hfz, hnd⟩ := hW
  have hA : DataW.TrodAll enc Try.prog W 0 (fun _ => true) true Try.f9.params.toList args.toList ds p := hA0
  rw [Try.params9] at hA hval
  obtain ⟨v0, vs0, d0, ds0, p0, q0, hargs, rfl, rfl, h0, rest0⟩ := trodAll_cons hA
  obtain ⟨v1, vs1, d1, ds1, p1, q1, rfl, rfl, rfl, h1, rest1⟩ := trodAll_cons rest0
  obtain ⟨rfl, rfl, rfl⟩ := trodAll_nil rest1
  obtain rfl : args = #[v0, v1] := by cases args; simp_all
  obtain ⟨rfl, rfl⟩ := trodVars_none hV
  have k0 := h0
  have lt0 : ∀ x ∈ p0, x.block < W.heap.size := by obtain ⟨m, hm⟩ := k0; exact DataW.trod_lt m _ _ _ hm
  have w0 := open_Lay (hval 0 57 v0 rfl rfl) h0
  obtain ⟨a1, rfl, rfl, rfl, w1⟩ := open_int Try.underlying2 (hval 1 2 v1 rfl rfl) h1
  clear hA0 hval0
  refine (walk _ a1 W w0 w1).mono fun e W' ⟨he, bel⟩ => ?_
  subst he
  exact ⟨_, rfl, _, _, _, [], _, [], hW', trodAll_mk1 (shut_bool Try.underlying4 _), (trodAll_cons_mk (Below.trod laidOut (by kernel_rfl) (of_decide_eq_true (by kernel_rfl)) k0 bel lt0) (trodAll_cons_mk (shut_int Try.underlying2 w1) trodAll_mk0)), rfl, bel.frame _, fun h => by cases h⟩

theorem over : Rows.fnExactIsWholeRow.holds Try.pinned (OpenSpec.ofChange Rows.fnExactIsWholeSpec) :=
  OpenClaim.holds_of_wide 9 Try.f9 rfl rfl rfl rfl rfl rfl rfl ⟨rfl, rfl, rfl, rfl, rfl⟩ rfl rfl rfl rfl rfl (by kernel_rfl) Try.func9 (by kernel_rfl)
    (of_decide_eq_true (by kernel_rfl)) (by unfold Func.isWrapper; first | (rw [if_pos (by decide +kernel)]; kernel_rfl) | (rw [if_neg (by decide +kernel)]; exact ⟨rfl, rfl⟩))
    (fun os started H enc _ => lifted os started H enc)

/-- the statement -/
theorem proved : Rows.FnExactIsWholeSaid := over
end Go.Proofs.Ytkpcjjnaocdelaa.fnExactIsWhole
