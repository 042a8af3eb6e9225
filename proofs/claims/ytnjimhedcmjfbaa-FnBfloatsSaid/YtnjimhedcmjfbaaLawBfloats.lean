/-
  For any bytes: the nearest bfloat of the number that they draw is the nearer one of its neighbours, and a chance chooses as told. Conditions: none.
-/
import Derived.Test.YtnjimhedcmjfbaaLawKit
import Derived.Test.YtnjimhedcmjfbaaBfloat
import Derived.ChangeOld
import Derived.Below
namespace Go.Proofs.Ytnjimhedcmjfbaa.fnBfloats
open Go.ChangeShapes Go.WideShapes Go.ChangeAt Go.RowKit
open Go.ChangeMaps (open_string shut_string)
set_option linter.unusedVariables false

theorem walk (a0 : Option Addr) (len0 cap0 : Nat) (z0 : List Int) (a1 : Option Addr) (len1 cap1 : Nat) (z1 : List Int) (w : World) (w0 : IsRow .u8 w a0 len0 cap0 z0) (w1 : IsRow .u8 w a1 len1 cap1 z1) :
    Calls Try.prog 6 #[.slice a0 len0 cap0, .slice a1 len1 cap1] w fun e w' => e = .returned (.bool true) ∧ Below w.heap.size w w' := by
  obtain ⟨hm0, hm1, rfl⟩ : len0 ≤ cap0 ∧ cap0 ≤ maxLen ∧ z0.length = len0 := ⟨w0.1, w0.2.1, w0.2.2.1⟩
  obtain ⟨hn0, hn1, rfl⟩ : len1 ≤ cap1 ∧ cap1 ≤ maxLen ∧ z1.length = len1 := ⟨w1.1, w1.2.1, w1.2.2.1⟩
  have HI0 := Lib.hid w0
  have HI1 := Lib.hid w1
  clear hm0 hm1 hn0 hn1 w0 w1
  by_cases hL : 1048576 < z0.length ∨ 1048576 < z1.length
  · have HL := Lib.hid hL
    clear hL
    go_enter Try.func6, Try.ntmps6
    go_wp2_with fail
    refine (c_b10Long_yes _ _ _ _ _ _ HL.out _).mono ?_
    rintro e w' ⟨rfl, rfl⟩
    go_wp2_with fail
    go_ret
    exact ⟨rfl, Below.refl _ _⟩
  · have HL0 := Lib.hid (show z0.length ≤ 1048576 by omega)
    have HL1 := Lib.hid (show z1.length ≤ 1048576 by omega)
    clear hL
    go_enter Try.func6, Try.ntmps6
    go_wp2_with fail
    refine (c_b10Long_no _ _ _ _ _ _ HL0.out HL1.out _).mono ?_
    rintro e w' ⟨rfl, rfl⟩
    go_wp2_with fail
    refine (c_B10Number _ _ _ z0 _ HI0.out HL0.out).mono ?_
    rintro e w1 ⟨x, hx, rfl, b1⟩
    have HX := Lib.hid hx
    have B1 := Lib.hid b1
    have HI := Lib.hid (HI1.out.kept b1)
    clear hx b1
    go_wp2_with fail
    refine (c_iBfloatOf x HX.out _).mono ?_
    rintro e w2 ⟨r, hr, hrl, rfl, rfl⟩
    have HR := Lib.hid hr
    have HRL := Lib.hid hrl
    clear hr hrl
    go_wp2_with fail
    refine (c_b10At _ _ _ z1 0 256 _ HI.out (by decide) (by decide) (by decide)).mono ?_
    rintro e w2 ⟨v0, p0, p1, rfl, rfl⟩
    go_wp2_with fail
    refine (c_b10At _ _ _ z1 1 256 _ HI.out (by decide) (by decide) (by decide)).mono ?_
    rintro e w2 ⟨v1, q0, q1, rfl, rfl⟩
    obtain ⟨c, hc⟩ := Int.eq_ofNat_of_zero_le (show 0 ≤ 256 * v0 + v1 by omega)
    have HC := Lib.hid (show c ≤ 65535 by omega)
    have hcc : (c : Int) ≤ 65535 := by omega
    go_wp2_with fail
    clear p0 p1 q0 q1
    refine (c_iBfloatBy x c HX.out HC.out _).mono ?_
    rintro e w2 ⟨rfl, rfl⟩
    clear hc
    have HBB := Lib.hid (bb_lt (c := c) HX.out HC.out)
    by_cases hf : 2139095040 ≤ x % 2147483648
    · have F := Lib.hid (show fin32 x = false by simp [fin32]; omega)
      have E1 := Lib.hid (show ((canon .f32 r : Int) == (canon .f32 x : Int)) = true by rw [HR.out, bf_inf hf]; simp)
      have E2 := Lib.hid (show ((canon .f32 (bb x c) : Int) == (canon .f32 x : Int)) = true by rw [bb_inf hf]; simp)
      clear hf
      go_wp2_with fail
      refine (c_sIsFinite x _).mono ?_
      rintro e w3 ⟨rfl, n, rfl⟩
      rw [F.out]
      go_wp2_with fail
      refine (c_sSameNumber _ _ HRL.out HX.out _).mono ?_
      rintro e w4 ⟨rfl, rfl⟩
      rw [E1.out]
      go_wp2_with fail
      refine (c_sSameNumber _ _ HBB.out HX.out _).mono ?_
      rintro e w5 ⟨rfl, rfl⟩
      rw [E2.out]
      go_wp2_with fail
      go_ret
      exact ⟨rfl, below_drewN B1.out _⟩
    · have F := Lib.hid (show fin32 x = true by simp [fin32]; omega)
      have HN := Lib.hid (canon_num (k := .f32) (b := x) (by rw [isNan32]; simp; omega))
      have HF := Lib.hid hf
      have hx := HX.out
      obtain ⟨base, hbase⟩ : ∃ base, x / 65536 * 65536 = base := ⟨_, rfl⟩
      obtain ⟨lo, hlo⟩ : ∃ lo, x % 65536 = lo := ⟨_, rfl⟩
      obtain ⟨par, hpar⟩ : ∃ par, base / 65536 % 2 = par := ⟨_, rfl⟩
      have m1 : bits .andNot .i64 (x : Int) 65535 = (base : Int) := by rw [b_mask64 x (by omega), hbase]
      have m2 : bits .and .i64 (x : Int) 65535 = (lo : Int) := by rw [b_low64 x (by omega), hlo]
      have m3 : bits .and .i64 (base : Int) 65536 = ((par * 65536 : Nat) : Int) := by rw [b_bit16 base (by omega), hpar]
      obtain ⟨q, hq⟩ : ∃ q : Int, ((par * 65536 : Nat) : Int) = q := ⟨_, rfl⟩
      rw [hq] at m3
      have HQ := Lib.hid hq
      have hb1 : (base : Int) ≤ 4294836224 := by omega
      have hl1 : (lo : Int) ≤ 65535 := by omega
      have HBL := Lib.hid (show base < 4294967296 by omega)
      have HBG := Lib.hid (show base + 65536 < 4294967296 by omega)
      have BY := Lib.hid (show bb x c = if 65536 ≤ lo + c then base + 65536 else base by rw [bb_parts hf HC.out, hbase, hlo])
      have NE := Lib.hid (show canon .f32 r = canon .f32 (if lo < 32768 ∨ lo = 32768 ∧ par = 0 then base else base + 65536) by
        rw [HR.out, bf_parts hf, hbase, hlo, hpar])
      clear hbase hlo hpar hx hf hq
      go_wp2_with fail
      refine (c_sIsFinite x _).mono ?_
      rintro e w3 ⟨rfl, n, rfl⟩
      rw [F.out]
      go_wp2_with fail
      refine (c_sBitsOf x HX.out _).mono ?_
      rintro e w4 ⟨rfl, rfl⟩
      rw [HN.out]
      go_wp2_with fail
      refine (c_sFromBits_yes base HBL.out _).mono ?_
      rintro e w5 ⟨rfl, rfl⟩
      go_wp2_with fail
      refine (c_sFromBits_yes (base + 65536) HBG.out _).mono ?_
      rintro e w6 ⟨rfl, rfl⟩
      by_cases hbig : 65536 ≤ lo + c
      · have t1 : decide ((65536 : Int) ≤ (lo : Int) + (c : Int)) = true := decide_eq_true (by omega)
        have t2 : decide ((lo : Int) + (c : Int) < 65536) = false := decide_eq_false (by omega)
        have E1 := Lib.hid (show ((canon .f32 (bb x c) : Int) == (canon .f32 (base + 65536) : Int)) = true by rw [BY.out, if_pos hbig]; simp)
        clear hbig
        go_wp2_with fail
        refine (c_sSameNumber _ _ HBB.out HBG.out _).mono ?_
        rintro e w7 ⟨rfl, rfl⟩
        rw [E1.out]
        by_cases h1 : lo < 32768
        · have E2 := Lib.hid (show ((canon .f32 r : Int) == (canon .f32 base : Int)) = true by rw [NE.out, if_pos (.inl h1)]; simp)
          have h1' : decide ((lo : Int) < 32768) = true := decide_eq_true (by omega)
          clear h1
          go_wp2_with fail
          refine (c_sSameNumber _ _ HRL.out HBL.out _).mono ?_
          rintro e w8 ⟨rfl, rfl⟩
          rw [E2.out]
          go_wp2_with fail
          go_ret
          exact ⟨rfl, below_drewN B1.out _⟩
        · have h1' : decide ((lo : Int) < 32768) = false := decide_eq_false (by omega)
          by_cases h2 : lo = 32768
          · have h2' : ((lo : Int) == 32768) = true := by simp; omega
            by_cases h3 : par = 0
            · have E2 := Lib.hid (show ((canon .f32 r : Int) == (canon .f32 base : Int)) = true by rw [NE.out, if_pos (.inr ⟨h2, h3⟩)]; simp)
              have h3' : (q == 0) = true := by rw [← HQ.out, h3]; rfl
              clear h1 h2 h3
              go_wp2_with fail
              refine (c_sSameNumber _ _ HRL.out HBL.out _).mono ?_
              rintro e w8 ⟨rfl, rfl⟩
              rw [E2.out]
              go_wp2_with fail
              go_ret
              exact ⟨rfl, below_drewN B1.out _⟩
            · have E2 := Lib.hid (show ((canon .f32 r : Int) == (canon .f32 (base + 65536) : Int)) = true by rw [NE.out, if_neg (by omega)]; simp)
              have h3' : (q == 0) = false := by rw [← HQ.out]; simp; omega
              clear h1 h2 h3
              go_wp2_with fail
              refine (c_sSameNumber _ _ HRL.out HBG.out _).mono ?_
              rintro e w8 ⟨rfl, rfl⟩
              rw [E2.out]
              go_wp2_with fail
              go_ret
              exact ⟨rfl, below_drewN B1.out _⟩
          · have h2' : ((lo : Int) == 32768) = false := by simp; omega
            have E2 := Lib.hid (show ((canon .f32 r : Int) == (canon .f32 (base + 65536) : Int)) = true by rw [NE.out, if_neg (by omega)]; simp)
            clear h1 h2
            go_wp2_with fail
            refine (c_sSameNumber _ _ HRL.out HBG.out _).mono ?_
            rintro e w8 ⟨rfl, rfl⟩
            rw [E2.out]
            go_wp2_with fail
            go_ret
            exact ⟨rfl, below_drewN B1.out _⟩
      · have t1 : decide ((65536 : Int) ≤ (lo : Int) + (c : Int)) = false := decide_eq_false (by omega)
        have t2 : decide ((lo : Int) + (c : Int) < 65536) = true := decide_eq_true (by omega)
        have E1 := Lib.hid (show ((canon .f32 (bb x c) : Int) == (canon .f32 base : Int)) = true by rw [BY.out, if_neg hbig]; simp)
        clear hbig
        go_wp2_with fail
        refine (c_sSameNumber _ _ HBB.out HBL.out _).mono ?_
        rintro e w7 ⟨rfl, rfl⟩
        rw [E1.out]
        by_cases h1 : lo < 32768
        · have E2 := Lib.hid (show ((canon .f32 r : Int) == (canon .f32 base : Int)) = true by rw [NE.out, if_pos (.inl h1)]; simp)
          have h1' : decide ((lo : Int) < 32768) = true := decide_eq_true (by omega)
          clear h1
          go_wp2_with fail
          refine (c_sSameNumber _ _ HRL.out HBL.out _).mono ?_
          rintro e w8 ⟨rfl, rfl⟩
          rw [E2.out]
          go_wp2_with fail
          go_ret
          exact ⟨rfl, below_drewN B1.out _⟩
        · have h1' : decide ((lo : Int) < 32768) = false := decide_eq_false (by omega)
          by_cases h2 : lo = 32768
          · have h2' : ((lo : Int) == 32768) = true := by simp; omega
            by_cases h3 : par = 0
            · have E2 := Lib.hid (show ((canon .f32 r : Int) == (canon .f32 base : Int)) = true by rw [NE.out, if_pos (.inr ⟨h2, h3⟩)]; simp)
              have h3' : (q == 0) = true := by rw [← HQ.out, h3]; rfl
              clear h1 h2 h3
              go_wp2_with fail
              refine (c_sSameNumber _ _ HRL.out HBL.out _).mono ?_
              rintro e w8 ⟨rfl, rfl⟩
              rw [E2.out]
              go_wp2_with fail
              go_ret
              exact ⟨rfl, below_drewN B1.out _⟩
            · have E2 := Lib.hid (show ((canon .f32 r : Int) == (canon .f32 (base + 65536) : Int)) = true by rw [NE.out, if_neg (by omega)]; simp)
              have h3' : (q == 0) = false := by rw [← HQ.out]; simp; omega
              clear h1 h2 h3
              go_wp2_with fail
              refine (c_sSameNumber _ _ HRL.out HBG.out _).mono ?_
              rintro e w8 ⟨rfl, rfl⟩
              rw [E2.out]
              go_wp2_with fail
              go_ret
              exact ⟨rfl, below_drewN B1.out _⟩
          · have h2' : ((lo : Int) == 32768) = false := by simp; omega
            have E2 := Lib.hid (show ((canon .f32 r : Int) == (canon .f32 (base + 65536) : Int)) = true by rw [NE.out, if_neg (by omega)]; simp)
            clear h1 h2
            go_wp2_with fail
            refine (c_sSameNumber _ _ HRL.out HBG.out _).mono ?_
            rintro e w8 ⟨rfl, rfl⟩
            rw [E2.out]
            go_wp2_with fail
            go_ret
            exact ⟨rfl, below_drewN B1.out _⟩

/-! the row's step -/
set_option maxRecDepth 100000 in
theorem lifted (os : Os) (started : os.Started) (H : Type) (enc : TypeId × Value → H) :
    ReturnsInHanded {} Try.checked os 6 .any (Rows.fnBfloatsSpec.pre6 enc Try.prog Try.f6 Rows.fnBfloatsRow.domain false) (Rows.fnBfloatsSpec.post enc Try.prog Try.f6 false true false false) := by
  refine returnsInHanded_of_change (C := Try.checked) own started (by kernel_rfl) Try.func6
    (ChangeSpec.witness6 (enc := enc) (C := Try.checked) false ⟨#[], #[.slice none 0 0, .slice none 0 0], []⟩ 8 (by kernel_rfl) (by kernel_rfl) (by kernel_rfl) (by kernel_rfl)) ?_
  intro W base args ds gs before hval0 hW hcnd _
  have hval : ∀ (j : Nat) t v, Try.f6.params[j]? = some t → args[j]? = some v → Value.okWide Try.prog W .any base t v := hval0
  have hW' := hW
  obtain ⟨p, q, hA0, hV, rfl, hfz, hnd⟩ := hW
  have hA : DataW.TrodAll enc Try.prog W 0 (fun _ => true) true Try.f6.params.toList args.toList ds p := hA0
  rw [Try.params6] at hA hval
  obtain ⟨v0, vs0, d0, ds0, p0, q0, hargs, rfl, rfl, h0, r0⟩ := trodAll_cons hA
  obtain ⟨v1, vs1, d1, ds1, p1, q1, rfl, rfl, rfl, h1, r1⟩ := trodAll_cons r0
  obtain ⟨rfl, rfl, rfl⟩ := trodAll_nil r1
  obtain rfl : args = #[v0, v1] := by cases args; simp_all
  obtain ⟨rfl, rfl⟩ := trodVars_none hV
  obtain ⟨a0, len0, cap0, rfl⟩ := okWide_slice Try.underlying22 (hval 0 22 v0 rfl rfl)
  have k0 := h0
  have lt0 : ∀ x ∈ p0, x.block < W.heap.size := by obtain ⟨m, hm⟩ := k0; exact DataW.trod_lt m _ _ _ hm
  obtain ⟨z0, w0⟩ := isRow_of (k := .u8) Try.underlying22 Try.underlying5 (by kernel_rfl) h0
  obtain ⟨a1, len1, cap1, rfl⟩ := okWide_slice Try.underlying22 (hval 1 22 v1 rfl rfl)
  have k1 := h1
  have lt1 : ∀ x ∈ p1, x.block < W.heap.size := by obtain ⟨m, hm⟩ := k1; exact DataW.trod_lt m _ _ _ hm
  obtain ⟨z1, w1⟩ := isRow_of (k := .u8) Try.underlying22 Try.underlying5 (by kernel_rfl) h1
  clear hA0 hval0
  refine (walk a0 len0 cap0 z0 a1 len1 cap1 z1 W w0 w1).mono fun e W' ⟨he, bel⟩ => ?_
  subst he
  exact ⟨_, rfl, _, _, _, [], _, [], hW', trodAll_mk1 (shut_bool Try.underlying4 _), (trodAll_cons_mk (Below.trod laidOut (by kernel_rfl) (of_decide_eq_true (by kernel_rfl)) k0 bel lt0) (trodAll_cons_mk (Below.trod laidOut (by kernel_rfl) (of_decide_eq_true (by kernel_rfl)) k1 bel lt1) trodAll_mk0)), rfl, bel.frame _, fun h => by cases h⟩

theorem over : Rows.fnBfloatsRow.holds Try.pinned (OpenSpec.ofChange Rows.fnBfloatsSpec) :=
  OpenClaim.holds_of_wide 6 Try.f6 rfl rfl rfl rfl rfl rfl rfl ⟨rfl, rfl, rfl, rfl, rfl⟩ rfl rfl rfl rfl rfl (by kernel_rfl) Try.func6 (by kernel_rfl)
    (of_decide_eq_true (by kernel_rfl)) (by unfold Func.isWrapper; first | (rw [if_pos (by decide +kernel)]; kernel_rfl) | (rw [if_neg (by decide +kernel)]; exact ⟨rfl, rfl⟩))
    (fun os started H enc _ => lifted os started H enc)

/-- the statement -/
theorem proved : Rows.FnBfloatsSaid := over
end Go.Proofs.Ytnjimhedcmjfbaa.fnBfloats
