/-
  For any bytes: the rates of the base, the warm steps and the half that they draw rise while it is warm, are the base then, half of it a half later, and never rise again. Conditions: none.
-/
import Derived.Test.YtjlkfhnjfbidjaaRatF
import Derived.ChangeOld
import Derived.Below
namespace Go.Proofs.Ytjlkfhnjfbidjaa.fnRates
open Go.ChangeShapes Go.WideShapes Go.ChangeAt Go.RowKit
open Go.ChangeMaps (open_string shut_string)
set_option linter.unusedVariables false
set_option maxRecDepth 20000
set_option maxHeartbeats 4000000

theorem walk (a0 : Option Addr) (len0 cap0 : Nat) (z0 : List Int) (a1 : Option Addr) (len1 cap1 : Nat) (z1 : List Int) (w : World) (w0 : IsRow .u8 w a0 len0 cap0 z0) (w1 : IsRow .u8 w a1 len1 cap1 z1) :
    Calls Try.prog 3 #[.slice a0 len0 cap0, .slice a1 len1 cap1] w fun e w' => e = .returned (.bool true) ∧ Below w.heap.size w w' := by
  obtain ⟨hm0, hm1, rfl⟩ : len0 ≤ cap0 ∧ cap0 ≤ maxLen ∧ z0.length = len0 := ⟨w0.1, w0.2.1, w0.2.2.1⟩
  obtain ⟨hn0, hn1, rfl⟩ : len1 ≤ cap1 ∧ cap1 ≤ maxLen ∧ z1.length = len1 := ⟨w1.1, w1.2.1, w1.2.2.1⟩
  have HI0 := Lib.hid w0
  have HI1 := Lib.hid w1
  clear hm0 hm1 hn0 hn1 w0 w1
  by_cases hL : 1048576 < z0.length ∨ 1048576 < z1.length
  · have HL := Lib.hid hL
    clear hL
    go_enter Try.func3, Try.ntmps3
    go_wp2_with fail
    refine (c_b10Long_yes _ _ _ _ _ _ HL.out _).mono ?_
    rintro e w' ⟨rfl, rfl⟩
    go_wp2_with fail
    go_ret
    exact ⟨rfl, Below.refl _ _⟩
  · have HL0 := Lib.hid (show z0.length ≤ 1048576 by omega)
    have HL1 := Lib.hid (show z1.length ≤ 1048576 by omega)
    clear hL
    go_enter Try.func3, Try.ntmps3
    go_wp2_with fail
    refine (c_b10Long_no _ _ _ _ _ _ HL0.out HL1.out _).mono ?_
    rintro e w' ⟨rfl, rfl⟩
    go_wp2_with fail
    refine (c_b10At _ _ _ z0 0 64 _ HI0.out (by decide) (by decide) (by decide)).mono ?_
    rintro e w2 ⟨v0, p0, p1, rfl, rfl⟩
    obtain ⟨v, rfl⟩ := Int.eq_ofNat_of_zero_le p0
    have hv : v < 64 := by omega
    have HV := Lib.hid hv
    have HB := Lib.hid (show ∀ w1, canon .f32 (fval .quo .f32 (floatOfInt .f32 (1 + (v : Int))) 1098907648 w1) = tB v by
      intro w1
      rw [canon_fval, floatOfInt_canon, Int.add_comm, show canon .f32 1098907648 = 1098907648 by decide +kernel]
      exact (base_at HV.out).1)
    clear hv
    go_wp2_with fail
    refine (c_b10At _ _ _ z0 1 10 _ (HI0.out.kept (below_drewN (Below.refl _ _) _)) (by decide) (by decide) (by decide)).mono ?_
    rintro e w2 ⟨m, m0, m1, rfl, rfl⟩
    have m1' : m ≤ 9 := by omega
    clear m1
    go_wp2_with fail
    refine (c_b10At _ _ _ z1 0 10 _ (HI1.out.kept (below_drewN (Below.refl _ _) _)) (by decide) (by decide) (by decide)).mono ?_
    rintro e w2 ⟨h, h0, h1, rfl, rfl⟩
    have h1' : h ≤ 9 := by omega
    clear h1
    go_wp2_with fail
    refine (c_b10At _ _ _ z1 1 60 _ (HI1.out.kept (below_drewN (Below.refl _ _) _)) (by decide) (by decide) (by decide)).mono ?_
    rintro e w2 ⟨s, s0, s1, rfl, rfl⟩
    have s1' : s ≤ 59 := by omega
    clear s1
    have HBL := Lib.hid (fval_lt .quo .f32 (floatOfInt .f32 (1 + (v : Int))) 1098907648 w)
    have HB1 := Lib.hid (HB.out w)
    obtain ⟨b, hb⟩ : ∃ b, fval .quo .f32 (floatOfInt .f32 (1 + (v : Int))) 1098907648 w = b := ⟨_, rfl⟩
    rw [hb] at HBL HB1 ⊢
    clear hb HB
    go_wp2_with fail
    refine (c_rate (v := v) _ HBL.out HV.out HB1.out m0 m1' (by omega) (by omega) s0 (by omega)).mono ?_
    rintro e w3 ⟨r1, n1, e1, rfl, rfl⟩
    have E1 := Lib.hid e1
    clear e1
    go_wp2_with fail
    refine (c_rate (v := v) _ HBL.out HV.out HB1.out m0 m1' (by omega) (by omega) (by omega) (by omega)).mono ?_
    rintro e w3 ⟨r2, n2, e2, rfl, rfl⟩
    have E2 := Lib.hid e2
    clear e2
    go_wp2_with fail
    refine (c_rate (v := v) _ HBL.out HV.out HB1.out m0 m1' (by omega) (by omega) (by omega) (by omega)).mono ?_
    rintro e w3 ⟨r3, n3, e3, rfl, rfl⟩
    have E3 := Lib.hid e3
    clear e3
    go_wp2_with fail
    refine (c_rate (v := v) _ HBL.out HV.out HB1.out m0 m1' (by omega) (by omega) (by omega) (by omega)).mono ?_
    rintro e w3 ⟨r4, n4, e4, rfl, rfl⟩
    have E4 := Lib.hid e4
    clear e4
    obtain ⟨g1, g2, g3, g4, g5⟩ := rates_ok (h := 1 + h) HV.out HB1.out m0 m1' (by omega) (by omega) s0 s1' E1.out E2.out E3.out E4.out
    by_cases c1 : s + 1 < m
    · obtain ⟨f1, f2⟩ := g4 c1
      clear g4 g5
      go_wp2_with fail
      go_ret
      exact ⟨rfl, below_drewN (Below.refl _ _) _⟩
    · by_cases c2 : s < m
      · clear g4 g5
        have c1' : m ≤ s + 1 := by omega
        go_wp2_with fail
        go_ret
        exact ⟨rfl, below_drewN (Below.refl _ _) _⟩
      · have f1 := g5 (by omega)
        have c2' : m ≤ s := by omega
        clear g4 g5
        go_wp2_with fail
        go_ret
        exact ⟨rfl, below_drewN (Below.refl _ _) _⟩

/-! the row's step -/
set_option maxRecDepth 100000 in
theorem lifted (os : Os) (started : os.Started) (H : Type) (enc : TypeId × Value → H) :
    ReturnsInHanded {} Try.checked os 3 .any (Rows.fnRatesSpec.pre6 enc Try.prog Try.f3 Rows.fnRatesRow.domain false) (Rows.fnRatesSpec.post enc Try.prog Try.f3 false true false false) := by
  refine returnsInHanded_of_change (C := Try.checked) own started (by kernel_rfl) Try.func3
    (ChangeSpec.witness6 (enc := enc) (C := Try.checked) false ⟨#[], #[.slice none 0 0, .slice none 0 0], []⟩ 8 (by kernel_rfl) (by kernel_rfl) (by kernel_rfl) (by kernel_rfl)) ?_
  intro W base args ds gs before hval0 hW hcnd _
  have hval : ∀ (j : Nat) t v, Try.f3.params[j]? = some t → args[j]? = some v → Value.okWide Try.prog W .any base t v := hval0
  have hW' := hW
  obtain ⟨p, q, hA0, hV, rfl, hfz, hnd⟩ := hW
  have hA : DataW.TrodAll enc Try.prog W 0 (fun _ => true) true Try.f3.params.toList args.toList ds p := hA0
  rw [Try.params3] at hA hval
  obtain ⟨v0, vs0, d0, ds0, p0, q0, hargs, rfl, rfl, h0, rest0⟩ := trodAll_cons hA
  obtain ⟨v1, vs1, d1, ds1, p1, q1, rfl, rfl, rfl, h1, rest1⟩ := trodAll_cons rest0
  obtain ⟨rfl, rfl, rfl⟩ := trodAll_nil rest1
  obtain rfl : args = #[v0, v1] := by cases args; simp_all
  obtain ⟨rfl, rfl⟩ := trodVars_none hV
  obtain ⟨a0, len0, cap0, rfl⟩ := okWide_slice Try.underlying22 (hval 0 22 v0 rfl rfl)
  have k0 := h0
  have lt0 : ∀ x ∈ p0, x.block < W.heap.size := by obtain ⟨m, hm⟩ := k0; exact DataW.trod_lt m _ _ _ hm
  obtain ⟨z0, w0⟩ := isRow_of (k := .u8) Try.underlying22 Try.underlying5 (by kernel_rfl) h0
  obtain ⟨a1, len1, cap1, rfl⟩ := okWide_slice Try.underlying22 (hval 1 22 v1 rfl rfl)
  have k1 := h1
  have lt1 : ∀ x ∈ p1, x.block < W.heap.size := by obtain ⟨m, hm⟩ := k1; exact DataW.trod_lt m _ _ _ hm
  obtain ⟨z1, w1⟩ := isRow_of (k := .u8) Try.underlying22 Try.underlying5 (by kernel_rfl) h1
  clear hA0 hval0
  refine (walk a0 len0 cap0 z0 a1 len1 cap1 z1 W w0 w1).mono fun e W' ⟨he, bel⟩ => ?_
  subst he
  exact ⟨_, rfl, _, _, _, [], _, [], hW', trodAll_mk1 (shut_bool Try.underlying4 _), (trodAll_cons_mk (Below.trod laidOut (by kernel_rfl) (of_decide_eq_true (by kernel_rfl)) k0 bel lt0) (trodAll_cons_mk (Below.trod laidOut (by kernel_rfl) (of_decide_eq_true (by kernel_rfl)) k1 bel lt1) trodAll_mk0)), rfl, bel.frame _, fun h => by cases h⟩

theorem over : Rows.fnRatesRow.holds Try.pinned (OpenSpec.ofChange Rows.fnRatesSpec) :=
  OpenClaim.holds_of_wide 3 Try.f3 rfl rfl rfl rfl rfl rfl rfl ⟨rfl, rfl, rfl, rfl, rfl⟩ rfl rfl rfl rfl rfl (by kernel_rfl) Try.func3 (by kernel_rfl)
    (of_decide_eq_true (by kernel_rfl)) (by unfold Func.isWrapper; first | (rw [if_pos (by decide +kernel)]; kernel_rfl) | (rw [if_neg (by decide +kernel)]; exact ⟨rfl, rfl⟩))
    (fun os started H enc _ => lifted os started H enc)

/-- the statement -/
theorem proved : Rows.FnRatesSaid := over
end Go.Proofs.Ytjlkfhnjfbidjaa.fnRates
