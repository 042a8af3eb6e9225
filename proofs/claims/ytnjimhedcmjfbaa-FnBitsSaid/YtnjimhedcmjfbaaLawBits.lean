/-
  For any bytes: numbers are made by their bits again, and have the next bits as neighbours. Conditions: none.
-/
import Derived.Test.YtnjimhedcmjfbaaLawKit
import Derived.Test.YtnjimhedcmjfbaaNeigh
import Derived.ChangeOld
import Derived.Below
namespace Go.Proofs.Ytnjimhedcmjfbaa.fnBits
open Go.ChangeShapes Go.WideShapes Go.ChangeAt Go.RowKit
open Go.ChangeMaps (open_string shut_string)
set_option linter.unusedVariables false

theorem walk (a0 : Option Addr) (len0 cap0 : Nat) (z0 : List Int) (a1 : Option Addr) (len1 cap1 : Nat) (z1 : List Int) (w : World) (w0 : IsRow .u8 w a0 len0 cap0 z0) (w1 : IsRow .u8 w a1 len1 cap1 z1) :
    Calls Try.prog 3 #[.slice a0 len0 cap0, .slice a1 len1 cap1] w fun e w' => e = .returned (.bool true) ∧ Below w.heap.size w w' := by
  obtain ⟨hm0, hm1, rfl⟩ : len0 ≤ cap0 ∧ cap0 ≤ maxLen ∧ z0.length = len0 := ⟨w0.1, w0.2.1, w0.2.2.1⟩
  obtain ⟨hn0, hn1, rfl⟩ : len1 ≤ cap1 ∧ cap1 ≤ maxLen ∧ z1.length = len1 := ⟨w1.1, w1.2.1, w1.2.2.1⟩
  have HI0 := Lib.hid w0
  have HI1 := Lib.hid w1
  clear hm0 hm1 hn0 hn1 w0 w1
  by_cases hL : 1048576 < z0.length ∨ 1048576 < z1.length
  · have HL := Lib.hid hL
    clear hL
    go_enter Try.func3, Try.ntmps3
    go_wp2_with fail
    refine (c_b10Long_yes _ _ _ _ _ _ HL.out _).mono ?_
    rintro e w' ⟨rfl, rfl⟩
    go_wp2_with fail
    go_ret
    exact ⟨rfl, Below.refl _ _⟩
  · have HL0 := Lib.hid (show z0.length ≤ 1048576 by omega)
    have HL1 := Lib.hid (show z1.length ≤ 1048576 by omega)
    clear hL
    go_enter Try.func3, Try.ntmps3
    go_wp2_with fail
    refine (c_b10Long_no _ _ _ _ _ _ HL0.out HL1.out _).mono ?_
    rintro e w' ⟨rfl, rfl⟩
    go_wp2_with fail
    refine (c_B10Number _ _ _ z0 _ HI0.out HL0.out).mono ?_
    rintro e v1 ⟨x, hx, rfl, b0⟩
    have HX := Lib.hid hx
    have B0 := Lib.hid b0
    have HI := Lib.hid (HI1.out.kept b0)
    clear hx b0
    go_wp2_with fail
    refine (c_B10Number _ _ _ z1 _ HI.out HL1.out).mono ?_
    rintro e v2 ⟨y, hy, rfl, b1⟩
    have HY := Lib.hid hy
    have B1 := Lib.hid (Below.next' B0.out b1)
    clear hy b1
    go_wp2_with fail
    refine (c_iBitsOf x HX.out _).mono ?_
    rintro e v3 ⟨rfl, rfl⟩
    obtain ⟨m, hm⟩ : ∃ m, canon .f32 x = m := ⟨_, rfl⟩
    rw [hm]
    have HMX := Lib.hid hm
    have HM := Lib.hid (show m < 4294967296 by rw [← hm]; exact canon32_lt HX.out)
    have E1 := Lib.hid (show ((canon .f32 m : Int) == (canon .f32 x : Int)) = true by rw [← hm, canon_canon]; simp)
    have q1 : decide ((m : Int) < 0) = false := decide_eq_false (by omega)
    have q2 : decide ((4294967295 : Int) < (m : Int)) = false := decide_eq_false (by have := HM.out; omega)
    clear hm
    go_wp2_with fail
    refine (c_iFromBits_yes m HM.out _).mono ?_
    rintro e v4 ⟨rfl, rfl⟩
    have hx := HX.out
    by_cases hnan : isNan .f32 x = true
    · have hm1 : m = 2143289344 := by rw [← HMX.out, canon_nan hnan]; rfl
      have hx2 : 2139095040 < x % 2147483648 := by rw [isNan32] at hnan; simpa using hnan
      have ho : (FloatKind.f32.format.order x x != some .eq) = true := by rw [order_self_ne, hnan]
      have t1 : ((m : Int) == 2143289344) = true := by rw [hm1]; rfl
      have t2 : (bits .and .i64 (m : Int) 2139095040 != 2139095040) = false := by rw [and_exp m HM.out]; simp; omega
      have FB := Lib.hid (show fin32 x = false by simp [fin32]; omega)
      obtain ⟨bq, hbq⟩ : ∃ bq, ((canon .f32 x : Int) == (canon .f32 y : Int)) = bq := ⟨_, rfl⟩
      obtain ⟨my, hmy⟩ : ∃ my, canon .f32 y = my := ⟨_, rfl⟩
      have t3 : ((m : Int) == (my : Int)) = bq := by rw [← hbq, ← hmy, HMX.out]
      have BQ := Lib.hid hbq
      have MY := Lib.hid hmy
      obtain ⟨u, hu⟩ : ∃ u, nx x = u := ⟨_, rfl⟩
      obtain ⟨d, hd⟩ : ∃ d, opp (nx (opp x)) = d := ⟨_, rfl⟩
      have HU := Lib.hid hu
      have HD := Lib.hid hd
      have HUL := Lib.hid (show u < 4294967296 by rw [← hu]; exact nx_lt HX.out)
      have HDL := Lib.hid (show d < 4294967296 by rw [← hd]; exact dn_lt HX.out)
      have f1 : (FloatKind.f32.format.order u u != some .eq) = true := by rw [order_self_ne, ← hu, nx_nan hnan]; exact hnan
      have f2 : (FloatKind.f32.format.order d d != some .eq) = true := by rw [order_self_ne, ← hd, dn_nan HX.out hnan]; exact hnan
      clear hbq hmy hu hd hnan
      clear hm1 hx2 hx
      go_wp2_with fail
      refine (c_iSameNumber m x HM.out HX.out _).mono ?_
      rintro e w5 ⟨rfl, rfl⟩
      rw [E1.out]
      go_wp2_with fail
      refine (c_iSameNumber x y HX.out HY.out _).mono ?_
      rintro e w5 ⟨rfl, rfl⟩
      rw [BQ.out]
      go_wp2_with fail
      refine (c_iBitsOf y HY.out _).mono ?_
      rintro e w5 ⟨rfl, rfl⟩
      rw [MY.out]
      go_wp2_with fail
      refine (c_iIsFinite x HX.out _).mono ?_
      rintro e w5 ⟨rfl, rfl⟩
      rw [FB.out]
      go_wp2_with fail
      refine (c_iNextUp x HX.out _).mono ?_
      rintro e w5 ⟨rfl, rfl⟩
      rw [HU.out]
      go_wp2_with fail
      refine (c_iNextDown x HX.out _).mono ?_
      rintro e w5 ⟨rfl, rfl⟩
      rw [HD.out]
      go_wp2_with fail
      go_ret
      exact ⟨rfl, B1.out⟩
    · have hnan : isNan .f32 x = false := by simpa using hnan
      have hm1 : m = x := by rw [← HMX.out, canon_num hnan]
      have hx2 := not_nan hnan
      by_cases hfin : x % 2147483648 < 2139095040
      · have ho : (FloatKind.f32.format.order x x != some .eq) = false := by rw [order_self_ne, hnan]
        have t1 : ((m : Int) == 2143289344) = false := by simp; omega
        have t2 : (bits .and .i64 (m : Int) 2139095040 != 2139095040) = true := by rw [and_exp m HM.out]; simp; omega
        have FB := Lib.hid (show fin32 x = true by simp [fin32]; omega)
        obtain ⟨bq, hbq⟩ : ∃ bq, ((canon .f32 x : Int) == (canon .f32 y : Int)) = bq := ⟨_, rfl⟩
        obtain ⟨my, hmy⟩ : ∃ my, canon .f32 y = my := ⟨_, rfl⟩
        have t3 : ((m : Int) == (my : Int)) = bq := by rw [← hbq, ← hmy, HMX.out]
        have BQ := Lib.hid hbq
        have MY := Lib.hid hmy
        obtain ⟨u, hu⟩ : ∃ u, nx x = u := ⟨_, rfl⟩
        obtain ⟨d, hd⟩ : ∃ d, opp (nx (opp x)) = d := ⟨_, rfl⟩
        have HU := Lib.hid hu
        have HD := Lib.hid hd
        have HUL := Lib.hid (show u < 4294967296 by rw [← hu]; exact nx_lt HX.out)
        have HDL := Lib.hid (show d < 4294967296 by rw [← hd]; exact dn_lt HX.out)
        obtain ⟨n1, n2, n3, n4, n5, n6⟩ := neigh HX.out hfin
        have f1 : (FloatKind.f32.format.order u x == some .gt) = true := by rw [← hu]; exact n1
        have f2 : (FloatKind.f32.format.order d x == some .lt) = true := by rw [← hd]; exact n2
        obtain ⟨d2, hd2⟩ : ∃ d2, opp (nx (opp u)) = d2 := ⟨_, rfl⟩
        obtain ⟨u2, hu2⟩ : ∃ u2, nx d = u2 := ⟨_, rfl⟩
        have f3 : (FloatKind.f32.format.order d2 x == some .eq) = true := by rw [← hd2, ← hu]; exact n3
        have f4 : (FloatKind.f32.format.order u2 x == some .eq) = true := by rw [← hu2, ← hd]; exact n4
        have N5 := Lib.hid (show (FloatKind.f32.format.order y x == some .gt) = true → (FloatKind.f32.format.order y u == some .lt) = false by rw [← hu]; exact n5 y)
        have N6 := Lib.hid (show (FloatKind.f32.format.order y x == some .lt) = true → (FloatKind.f32.format.order y d == some .gt) = false by rw [← hd]; exact n6 y)
        have HD2 := Lib.hid hd2
        have HU2 := Lib.hid hu2
        clear n1 n2 n3 n4 n5 n6 hd2 hu2
        clear hbq hmy hu hd hnan
        clear hm1 hx2 hfin hx
        go_wp2_with fail
        refine (c_iSameNumber m x HM.out HX.out _).mono ?_
        rintro e w5 ⟨rfl, rfl⟩
        rw [E1.out]
        go_wp2_with fail
        refine (c_iSameNumber x y HX.out HY.out _).mono ?_
        rintro e w5 ⟨rfl, rfl⟩
        rw [BQ.out]
        go_wp2_with fail
        refine (c_iBitsOf y HY.out _).mono ?_
        rintro e w5 ⟨rfl, rfl⟩
        rw [MY.out]
        go_wp2_with fail
        refine (c_iIsFinite x HX.out _).mono ?_
        rintro e w5 ⟨rfl, rfl⟩
        rw [FB.out]
        go_wp2_with fail
        refine (c_iNextUp x HX.out _).mono ?_
        rintro e w5 ⟨rfl, rfl⟩
        rw [HU.out]
        go_wp2_with fail
        refine (c_iNextDown x HX.out _).mono ?_
        rintro e w5 ⟨rfl, rfl⟩
        rw [HD.out]
        go_wp2_with fail
        refine (c_iIsFinite x HX.out _).mono ?_
        rintro e w5 ⟨rfl, rfl⟩
        rw [FB.out]
        by_cases g1 : (FloatKind.f32.format.order y x == some .gt) = true
        · have h1 := N5.out g1
          by_cases g2 : (FloatKind.f32.format.order y x == some .lt) = true
          · have h2 := N6.out g2
            go_wp2_with fail
            refine (c_iNextDown u HUL.out _).mono ?_
            rintro e w5 ⟨rfl, rfl⟩
            rw [HD2.out]
            go_wp2_with fail
            refine (c_iNextUp d HDL.out _).mono ?_
            rintro e w5 ⟨rfl, rfl⟩
            rw [HU2.out]
            go_wp2_with fail
            go_ret
            exact ⟨rfl, B1.out⟩
          · have g2 : (FloatKind.f32.format.order y x == some .lt) = false := by simpa using g2
            go_wp2_with fail
            refine (c_iNextDown u HUL.out _).mono ?_
            rintro e w5 ⟨rfl, rfl⟩
            rw [HD2.out]
            go_wp2_with fail
            refine (c_iNextUp d HDL.out _).mono ?_
            rintro e w5 ⟨rfl, rfl⟩
            rw [HU2.out]
            go_wp2_with fail
            go_ret
            exact ⟨rfl, B1.out⟩
        · have g1 : (FloatKind.f32.format.order y x == some .gt) = false := by simpa using g1
          by_cases g2 : (FloatKind.f32.format.order y x == some .lt) = true
          · have h2 := N6.out g2
            go_wp2_with fail
            refine (c_iNextDown u HUL.out _).mono ?_
            rintro e w5 ⟨rfl, rfl⟩
            rw [HD2.out]
            go_wp2_with fail
            refine (c_iNextUp d HDL.out _).mono ?_
            rintro e w5 ⟨rfl, rfl⟩
            rw [HU2.out]
            go_wp2_with fail
            go_ret
            exact ⟨rfl, B1.out⟩
          · have g2 : (FloatKind.f32.format.order y x == some .lt) = false := by simpa using g2
            go_wp2_with fail
            refine (c_iNextDown u HUL.out _).mono ?_
            rintro e w5 ⟨rfl, rfl⟩
            rw [HD2.out]
            go_wp2_with fail
            refine (c_iNextUp d HDL.out _).mono ?_
            rintro e w5 ⟨rfl, rfl⟩
            rw [HU2.out]
            go_wp2_with fail
            go_ret
            exact ⟨rfl, B1.out⟩
      · by_cases hxe : x = 2139095040
        · have ho : (FloatKind.f32.format.order x x != some .eq) = false := by rw [order_self_ne, hnan]
          have t1 : ((m : Int) == 2143289344) = false := by simp; omega
          have t2 : (bits .and .i64 (m : Int) 2139095040 != 2139095040) = false := by rw [and_exp m HM.out]; simp; omega
          have FB := Lib.hid (show fin32 x = false by simp [fin32]; omega)
          obtain ⟨bq, hbq⟩ : ∃ bq, ((canon .f32 x : Int) == (canon .f32 y : Int)) = bq := ⟨_, rfl⟩
          obtain ⟨my, hmy⟩ : ∃ my, canon .f32 y = my := ⟨_, rfl⟩
          have t3 : ((m : Int) == (my : Int)) = bq := by rw [← hbq, ← hmy, HMX.out]
          have BQ := Lib.hid hbq
          have MY := Lib.hid hmy
          obtain ⟨u, hu⟩ : ∃ u, nx x = u := ⟨_, rfl⟩
          obtain ⟨d, hd⟩ : ∃ d, opp (nx (opp x)) = d := ⟨_, rfl⟩
          have HU := Lib.hid hu
          have HD := Lib.hid hd
          have f1 : (FloatKind.f32.format.order x 0 == some .gt) = true := by rw [hxe]; decide +kernel
          have f2 : (FloatKind.f32.format.order u x == some .eq) = true := by rw [← hu, hxe]; decide +kernel
          have f3 : (FloatKind.f32.format.order d x == some .lt) = true := by rw [← hd, hxe]; decide +kernel
          clear hbq hmy hu hd hnan
          clear hm1 hx2 hx hxe hfin
          go_wp2_with fail
          refine (c_iSameNumber m x HM.out HX.out _).mono ?_
          rintro e w5 ⟨rfl, rfl⟩
          rw [E1.out]
          go_wp2_with fail
          refine (c_iSameNumber x y HX.out HY.out _).mono ?_
          rintro e w5 ⟨rfl, rfl⟩
          rw [BQ.out]
          go_wp2_with fail
          refine (c_iBitsOf y HY.out _).mono ?_
          rintro e w5 ⟨rfl, rfl⟩
          rw [MY.out]
          go_wp2_with fail
          refine (c_iIsFinite x HX.out _).mono ?_
          rintro e w5 ⟨rfl, rfl⟩
          rw [FB.out]
          go_wp2_with fail
          refine (c_iNextUp x HX.out _).mono ?_
          rintro e w5 ⟨rfl, rfl⟩
          rw [HU.out]
          go_wp2_with fail
          refine (c_iNextDown x HX.out _).mono ?_
          rintro e w5 ⟨rfl, rfl⟩
          rw [HD.out]
          go_wp2_with fail
          refine (c_iIsFinite x HX.out _).mono ?_
          rintro e w5 ⟨rfl, rfl⟩
          rw [FB.out]
          go_wp2_with fail
          go_ret
          exact ⟨rfl, B1.out⟩
        · have hxe1 := hxe
          clear hxe
          have hxe : x = 4286578688 := by omega
          have ho : (FloatKind.f32.format.order x x != some .eq) = false := by rw [order_self_ne, hnan]
          have t1 : ((m : Int) == 2143289344) = false := by simp; omega
          have t2 : (bits .and .i64 (m : Int) 2139095040 != 2139095040) = false := by rw [and_exp m HM.out]; simp; omega
          have FB := Lib.hid (show fin32 x = false by simp [fin32]; omega)
          obtain ⟨bq, hbq⟩ : ∃ bq, ((canon .f32 x : Int) == (canon .f32 y : Int)) = bq := ⟨_, rfl⟩
          obtain ⟨my, hmy⟩ : ∃ my, canon .f32 y = my := ⟨_, rfl⟩
          have t3 : ((m : Int) == (my : Int)) = bq := by rw [← hbq, ← hmy, HMX.out]
          have BQ := Lib.hid hbq
          have MY := Lib.hid hmy
          obtain ⟨u, hu⟩ : ∃ u, nx x = u := ⟨_, rfl⟩
          obtain ⟨d, hd⟩ : ∃ d, opp (nx (opp x)) = d := ⟨_, rfl⟩
          have HU := Lib.hid hu
          have HD := Lib.hid hd
          have f1 : (FloatKind.f32.format.order x 0 == some .gt) = false := by rw [hxe]; decide +kernel
          have f4 : (FloatKind.f32.format.order x 0 == some .lt) = true := by rw [hxe]; decide +kernel
          have f2 : (FloatKind.f32.format.order u x == some .gt) = true := by rw [← hu, hxe]; decide +kernel
          have f3 : (FloatKind.f32.format.order d x == some .eq) = true := by rw [← hd, hxe]; decide +kernel
          clear hbq hmy hu hd hnan
          clear hm1 hx2 hx hxe hxe1 hfin
          go_wp2_with fail
          refine (c_iSameNumber m x HM.out HX.out _).mono ?_
          rintro e w5 ⟨rfl, rfl⟩
          rw [E1.out]
          go_wp2_with fail
          refine (c_iSameNumber x y HX.out HY.out _).mono ?_
          rintro e w5 ⟨rfl, rfl⟩
          rw [BQ.out]
          go_wp2_with fail
          refine (c_iBitsOf y HY.out _).mono ?_
          rintro e w5 ⟨rfl, rfl⟩
          rw [MY.out]
          go_wp2_with fail
          refine (c_iIsFinite x HX.out _).mono ?_
          rintro e w5 ⟨rfl, rfl⟩
          rw [FB.out]
          go_wp2_with fail
          refine (c_iNextUp x HX.out _).mono ?_
          rintro e w5 ⟨rfl, rfl⟩
          rw [HU.out]
          go_wp2_with fail
          refine (c_iNextDown x HX.out _).mono ?_
          rintro e w5 ⟨rfl, rfl⟩
          rw [HD.out]
          go_wp2_with fail
          refine (c_iIsFinite x HX.out _).mono ?_
          rintro e w5 ⟨rfl, rfl⟩
          rw [FB.out]
          go_wp2_with fail
          go_ret
          exact ⟨rfl, B1.out⟩

/-! the row's step -/
set_option maxRecDepth 100000 in
theorem lifted (os : Os) (started : os.Started) (H : Type) (enc : TypeId × Value → H) :
    ReturnsInHanded {} Try.checked os 3 .any (Rows.fnBitsSpec.pre6 enc Try.prog Try.f3 Rows.fnBitsRow.domain false) (Rows.fnBitsSpec.post enc Try.prog Try.f3 false true false false) := by
  refine returnsInHanded_of_change (C := Try.checked) own started (by kernel_rfl) Try.func3
    (ChangeSpec.witness6 (enc := enc) (C := Try.checked) false ⟨#[], #[.slice none 0 0, .slice none 0 0], []⟩ 8 (by kernel_rfl) (by kernel_rfl) (by kernel_rfl) (by kernel_rfl)) ?_
  intro W base args ds gs before hval0 hW hcnd _
  have hval : ∀ (j : Nat) t v, Try.f3.params[j]? = some t → args[j]? = some v → Value.okWide Try.prog W .any base t v := hval0
  have hW' := hW
  obtain ⟨p, q, hA0, hV, rfl, hfz, hnd⟩ := hW
  have hA : DataW.TrodAll enc Try.prog W 0 (fun _ => true) true Try.f3.params.toList args.toList ds p := hA0
  rw [Try.params3] at hA hval
  obtain ⟨v0, vs0, d0, ds0, p0, q0, hargs, rfl, rfl, h0, r0⟩ := trodAll_cons hA
  obtain ⟨v1, vs1, d1, ds1, p1, q1, rfl, rfl, rfl, h1, r1⟩ := trodAll_cons r0
  obtain ⟨rfl, rfl, rfl⟩ := trodAll_nil r1
  obtain rfl : args = #[v0, v1] := by cases args; simp_all
  obtain ⟨rfl, rfl⟩ := trodVars_none hV
  obtain ⟨a0, len0, cap0, rfl⟩ := okWide_slice Try.underlying22 (hval 0 22 v0 rfl rfl)
  have k0 := h0
  have lt0 : ∀ x ∈ p0, x.block < W.heap.size := by obtain ⟨m, hm⟩ := k0; exact DataW.trod_lt m _ _ _ hm
  obtain ⟨z0, w0⟩ := isRow_of (k := .u8) Try.underlying22 Try.underlying5 (by kernel_rfl) h0
  obtain ⟨a1, len1, cap1, rfl⟩ := okWide_slice Try.underlying22 (hval 1 22 v1 rfl rfl)
  have k1 := h1
  have lt1 : ∀ x ∈ p1, x.block < W.heap.size := by obtain ⟨m, hm⟩ := k1; exact DataW.trod_lt m _ _ _ hm
  obtain ⟨z1, w1⟩ := isRow_of (k := .u8) Try.underlying22 Try.underlying5 (by kernel_rfl) h1
  clear hA0 hval0
  refine (walk a0 len0 cap0 z0 a1 len1 cap1 z1 W w0 w1).mono fun e W' ⟨he, bel⟩ => ?_
  subst he
  exact ⟨_, rfl, _, _, _, [], _, [], hW', trodAll_mk1 (shut_bool Try.underlying4 _), (trodAll_cons_mk (Below.trod laidOut (by kernel_rfl) (of_decide_eq_true (by kernel_rfl)) k0 bel lt0) (trodAll_cons_mk (Below.trod laidOut (by kernel_rfl) (of_decide_eq_true (by kernel_rfl)) k1 bel lt1) trodAll_mk0)), rfl, bel.frame _, fun h => by cases h⟩

theorem over : Rows.fnBitsRow.holds Try.pinned (OpenSpec.ofChange Rows.fnBitsSpec) :=
  OpenClaim.holds_of_wide 3 Try.f3 rfl rfl rfl rfl rfl rfl rfl ⟨rfl, rfl, rfl, rfl, rfl⟩ rfl rfl rfl rfl rfl (by kernel_rfl) Try.func3 (by kernel_rfl)
    (of_decide_eq_true (by kernel_rfl)) (by unfold Func.isWrapper; first | (rw [if_pos (by decide +kernel)]; kernel_rfl) | (rw [if_neg (by decide +kernel)]; exact ⟨rfl, rfl⟩))
    (fun os started H enc _ => lifted os started H enc)

/-- the statement -/
theorem proved : Rows.FnBitsSaid := over
end Go.Proofs.Ytnjimhedcmjfbaa.fnBits
