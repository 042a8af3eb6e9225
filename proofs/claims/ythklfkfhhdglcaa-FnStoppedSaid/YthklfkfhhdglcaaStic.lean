/-
  BestStep and StopAt of the program for lists of any capacity, and what the first least number is. Conditions: none.
-/
import Derived.Test.YthklfkfhhdglcaaSti
import Derived.Test.YthklfkfhhdglcaaRna
namespace Go.Proofs.Ythklfkfhhdglcaa
open Go.RowKit Go.Deep Go.WideShapes Go.ChangeShapes
set_option linter.unusedVariables false
attribute [local go_sem] World.drewN_zero

theorem bestF_all {f : Nat → Nat} : ∀ {k : Nat}, bestF f k = none → ∀ i, i < k → isNan .f32 (f i) = true
  | 0, _, i, hi => by omega
  | k + 1, h, i, hi => by
    cases hn : isNan .f32 (f k) with
    | true =>
      rw [bestF_nan hn] at h
      by_cases e : i = k
      · subst e; exact hn
      · exact bestF_all h i (by omega)
    | false =>
      exfalso
      cases hb : bestF f k with
      | none => rw [bestF_none hn hb] at h; cases h
      | some c =>
        cases hl : (FloatKind.f32.format.order (f k) (f c) == some .lt) with
        | true => rw [bestF_yes hn hb hl] at h; cases h
        | false => rw [bestF_no hn hb hl] at h; cases h
def someNum (f : Nat → Nat) (k : Nat) : Bool := (List.range k).any fun j => !isNan .f32 (f j)
theorem someNum_succ (f : Nat → Nat) (k : Nat) : someNum f (k + 1) = (someNum f k || !isNan .f32 (f k)) := by simp [someNum, List.range_succ]
theorem someNum_best (f : Nat → Nat) (k : Nat) : someNum f k = (bestF f k).isSome := by
  induction k with
  | zero => rfl
  | succ k ih =>
    rw [someNum_succ, ih]
    cases hn : isNan .f32 (f k) with
    | true => rw [bestF_nan hn]; simp
    | false =>
      cases hb : bestF f k with
      | none => rw [bestF_none hn hb]; rfl
      | some c =>
        cases hl : (FloatKind.f32.format.order (f k) (f c) == some .lt) with
        | true => rw [bestF_yes hn hb hl]; rfl
        | false => rw [bestF_no hn hb hl]; rfl
/-- what the first least number is -/
theorem bestF_some {f : Nat → Nat} (hf : ∀ j, f j < 4294967296) : ∀ {k b : Nat}, bestF f k = some b → isNan .f32 (f b) = false ∧ ∀ i, i < k → ltF (f i) (f b) = false ∧ (i < b → (FloatKind.f32.format.order (f i) (f b) == some .eq) = false)
  | 0, b, h => by cases h
  | k + 1, b, h => by
    cases hn : isNan .f32 (f k) with
    | true =>
      rw [bestF_nan hn] at h
      obtain ⟨h1, h2⟩ := bestF_some hf h
      refine ⟨h1, fun i hi => ?_⟩
      by_cases e : i = k
      · subst e
        exact ⟨ltF_nan_l _ hn, fun _ => by rw [order_isNan_l _ hn]; rfl⟩
      · exact h2 i (by omega)
    | false =>
      cases hb : bestF f k with
      | none =>
        rw [bestF_none hn hb] at h
        cases h
        refine ⟨hn, fun i hi => ?_⟩
        by_cases e : i = k
        · subst e
          exact ⟨by rw [ltF_num (hf _) (hf _) hn hn]; simp, fun h => by omega⟩
        · have ha := bestF_all hb i (by omega)
          exact ⟨ltF_nan_l _ ha, fun _ => by rw [order_isNan_l _ ha]; rfl⟩
      | some c =>
        obtain ⟨h1, h2⟩ := bestF_some hf hb
        cases hl : (FloatKind.f32.format.order (f k) (f c) == some .lt) with
        | true =>
          rw [bestF_yes hn hb hl] at h
          cases h
          have hkc : k32 (f k) < k32 (f c) := by
            have h3 : ltF (f k) (f c) = true := hl
            rw [ltF_num (hf _) (hf _) hn h1] at h3
            simpa using h3
          refine ⟨hn, fun i hi => ?_⟩
          by_cases e : i = k
          · subst e
            exact ⟨by rw [ltF_num (hf _) (hf _) hn hn]; simp, fun h => by omega⟩
          · cases hi2 : isNan .f32 (f i) with
            | true => exact ⟨ltF_nan_l _ hi2, fun _ => by rw [order_isNan_l _ hi2]; rfl⟩
            | false =>
              have h3 := (h2 i (by omega)).1
              rw [ltF_num (hf _) (hf _) hi2 h1] at h3
              have h4 : k32 (f c) ≤ k32 (f i) := by simpa using h3
              refine ⟨by rw [ltF_num (hf _) (hf _) hi2 hn]; simp; omega, fun _ => ?_⟩
              rw [ord_gt (hf _) (hf _) hi2 hn (by omega)]
              rfl
        | false =>
          rw [bestF_no hn hb hl] at h
          cases h
          refine ⟨h1, fun i hi => ?_⟩
          by_cases e : i = k
          · subst e
            have hbl := bestF_lt hb
            exact ⟨hl, fun h => by omega⟩
          · exact h2 i (by omega)
theorem isFloats_fromC {w : World} {b0 off n c : Nat} {z : List Nat} (h : IsFloats .f32 w (some ⟨b0, off, none⟩) n c z) (lo p : Nat) (hp : 1 ≤ p) (hl : lo + p ≤ n) : IsFloats .f32 w (some ⟨b0, off + lo, none⟩) p (c - lo) ((z.drop lo).take p) := by
  have := h.part lo (lo + p) (by omega) hl (c - lo) (by have := h.1; omega) (by have := h.2.1; omega)
  rw [Nat.add_sub_cancel_left] at this
  simp only [Option.map_some, add_plain] at this
  exact this
set_option maxHeartbeats 1000000 in
theorem c_iBestC (z : List Nat) (a : Option Addr) (cap : Nat) (w : World) (h : IsFloats .f32 w a z.length cap z) : Calls Try.prog 22 #[.slice a z.length cap] w (RetN (vBestStep z).1 (vBestStep z).2 w) := by
  have HF := Lib.hid h
  have hmax : z.length ≤ 9223372036854775807 := by have h1 := h.1; have := h.2.1; unfold maxLen at this; omega
  have HLT := Lib.hid h.2.2.2.1
  clear h
  by_cases h2 : z.length ≤ 256
  case neg =>
    have HX := Lib.hid (vBestStep_many (z := z) (by omega))
    rw [HX.out]
    have H2 := Lib.hid (show decide (z.length ≤ 256) = false by simp [h2])
    have h2' : (256 : Int) < (z.length : Int) := by omega
    clear h2
    go_enter Try.func22, Try.ntmps22
    go_wp2_with fail
    go_ret2
    exact ⟨rfl, Below.refl _ _⟩
  have HX := Lib.hid (vBestStep_few h2)
  rw [HX.out]
  have H2 := Lib.hid (show decide (z.length ≤ 256) = true by simp [h2])
  have h2' : (z.length : Int) ≤ 256 := by omega
  go_enter Try.func22, Try.ntmps22
  go_wp2_with fail
  go_loopw [4, 12] (fun s i wr => BesRel z z.length w s i wr) (fun _ i _ => z.length - (intOf i).toNat)
  case atStart => exact ⟨0, 0, Nat.zero_le _, rfl, rfl, rfl⟩
  case round =>
    obtain ⟨k, m, hk, rfl, rfl, rfl⟩ := hrel
    have hk0 : (0 : Int) ≤ (k : Int) := by omega
    by_cases hlt : k < z.length
    · have hlt' : (k : Int) < (z.length : Int) := by omega
      rcases HF.out.2.2.2.2 with h0 | ⟨b0, off, rfl, _, hc⟩
      · omega
      have c1 := hc k hlt
      have HXL := Lib.hid (show z.getD k 0 < 4294967296 by
        have : z.getD k 0 ∈ z := by simp [List.getD, hlt]
        exact HLT.out _ this)
      cases hn : isNan .f32 (z.getD k 0) with
      | true =>
        have HB := Lib.hid (bestF_nan (f := fun j => z.getD j 0) (k := k) hn)
        have hq := eq_self (z.getD k 0)
        rw [hn] at hq
        have HNB := Lib.hid (show decide (2139095040 < z.getD k 0 % 2147483648) = true by rw [isNan32] at hn; simpa using hn)
        obtain ⟨q, hqq⟩ : ∃ q, encB (bestF (fun j => z.getD j 0) k) = q := ⟨_, rfl⟩
        have HQ := Lib.hid hqq
        rw [hqq]
        obtain ⟨x, hx⟩ : ∃ x, z.getD k 0 = x := ⟨_, rfl⟩
        rw [hx] at c1 hq HNB HXL
        clear hc hn hqq hx
        go_wp2_with (first | (go_at_call 70; refine (c_wordOf _ _).mono ?_; rintro e w' ⟨rfl, rfl⟩) | (go_at_call 71; refine (c_isNan _ HXL.out _).mono ?_; rintro e w' ⟨rfl, rfl⟩; rw [HNB.out]))
        go_roundw
        case rel => exact ⟨k + 1, _, hlt, by go_num, by rw [HB.out, HQ.out], rfl⟩
        case measure => simp [intOf]; omega
      | false =>
        have hq := eq_self (z.getD k 0)
        rw [hn] at hq
        have HNB := Lib.hid (show decide (2139095040 < z.getD k 0 % 2147483648) = false by rw [isNan32] at hn; simpa using hn)
        cases hb : bestF (fun j => z.getD j 0) k with
        | none =>
          have HB := Lib.hid (bestF_none (f := fun j => z.getD j 0) (k := k) hn hb)
          show Code.wp _ _ _ _ _
          have he : encB none = (-1 : Int) := rfl
          rw [he]
          obtain ⟨x, hx⟩ : ∃ x, z.getD k 0 = x := ⟨_, rfl⟩
          rw [hx] at c1 hq HNB HXL
          clear hc hn hx hb he
          go_wp2_with (first | (go_at_call 70; refine (c_wordOf _ _).mono ?_; rintro e w' ⟨rfl, rfl⟩) | (go_at_call 71; refine (c_isNan _ HXL.out _).mono ?_; rintro e w' ⟨rfl, rfl⟩; rw [HNB.out]))
          go_roundw
          case rel => exact ⟨k + 1, _, hlt, by go_num, by rw [HB.out]; rfl, rfl⟩
          case measure => simp [intOf]; omega
        | some b =>
          have hbl := bestF_lt hb
          have c2 := hc b (by omega)
          have hb0 : (0 : Int) ≤ (b : Int) := by omega
          have hb1 : (b : Int) < (z.length : Int) := by omega
          have he : encB (some b) = (b : Int) := rfl
          rw [he]
          cases hl : (FloatKind.f32.format.order (z.getD k 0) (z.getD b 0) == some .lt) with
          | true =>
            have HB := Lib.hid (bestF_yes (f := fun j => z.getD j 0) (k := k) hn hb hl)
            obtain ⟨x, hx⟩ : ∃ x, z.getD k 0 = x := ⟨_, rfl⟩
            obtain ⟨y, hy⟩ : ∃ x, z.getD b 0 = x := ⟨_, rfl⟩
            rw [hx] at c1 hq HNB HXL hl
            rw [hy] at c2 hl
            clear hc hn hx hy hb he
            go_wp2_with (first | (go_at_call 70; refine (c_wordOf _ _).mono ?_; rintro e w' ⟨rfl, rfl⟩) | (go_at_call 71; refine (c_isNan _ HXL.out _).mono ?_; rintro e w' ⟨rfl, rfl⟩; rw [HNB.out]))
            go_roundw
            case rel => exact ⟨k + 1, _, hlt, by go_num, by rw [HB.out]; rfl, rfl⟩
            case measure => simp [intOf]; omega
          | false =>
            have HB := Lib.hid (bestF_no (f := fun j => z.getD j 0) (k := k) hn hb hl)
            obtain ⟨x, hx⟩ : ∃ x, z.getD k 0 = x := ⟨_, rfl⟩
            obtain ⟨y, hy⟩ : ∃ x, z.getD b 0 = x := ⟨_, rfl⟩
            rw [hx] at c1 hq HNB HXL hl
            rw [hy] at c2 hl
            clear hc hn hx hy hb he
            go_wp2_with (first | (go_at_call 70; refine (c_wordOf _ _).mono ?_; rintro e w' ⟨rfl, rfl⟩) | (go_at_call 71; refine (c_isNan _ HXL.out _).mono ?_; rintro e w' ⟨rfl, rfl⟩; rw [HNB.out]))
            go_roundw
            case rel => exact ⟨k + 1, _, hlt, by go_num, by rw [HB.out]; rfl, rfl⟩
            case measure => simp [intOf]; omega
    · obtain rfl : k = z.length := by omega
      cases hb : bestF (fun j => z.getD j 0) z.length with
      | none =>
        have he : encB none = (-1 : Int) := rfl
        rw [he]
        go_wp2_with fail
        go_ret2
        exact ⟨by rw [hb]; rfl, below_drewN (Below.refl _ _) _⟩
      | some b =>
        have he : encB (some b) = (b : Int) := rfl
        have hb0 : (0 : Int) ≤ (b : Int) := by omega
        rw [he]
        go_wp2_with fail
        go_ret2
        exact ⟨by rw [hb]; rfl, below_drewN (Below.refl _ _) _⟩
set_option maxRecDepth 20000 in
set_option maxHeartbeats 2000000 in
theorem c_iStopC (z : List Nat) (p : Int) (a : Option Addr) (cap : Nat) (w : World) (h : IsFloats .f32 w a z.length cap z) : Calls Try.prog 23 #[.slice a z.length cap, .int .i64 p] w (RetN (vStopAt z p).1 (vStopAt z p).2 w) := by
  have HF := Lib.hid h
  have hmax : z.length ≤ 9223372036854775807 := by have h1 := h.1; have := h.2.1; unfold maxLen at this; omega
  have hcap : z.length ≤ cap := h.1
  have hcapI : (z.length : Int) ≤ (cap : Int) := by omega
  clear h
  cases hok : okStop z p with
  | false =>
    have HX := Lib.hid (vStopAt_no hok)
    rw [HX.out]
    by_cases hz : (z.length : Int) ≤ 256
    · by_cases hp : 1 ≤ p
      · by_cases hp2 : p ≤ 256
        · exfalso
          simp [okStop] at hok
          omega
        · clear hok
          go_enter Try.func23, Try.ntmps23
          go_wp2_with fail
          go_ret2
          exact ⟨rfl, Below.refl _ _⟩
      · clear hok
        go_enter Try.func23, Try.ntmps23
        go_wp2_with fail
        go_ret2
        exact ⟨rfl, Below.refl _ _⟩
    · clear hok
      go_enter Try.func23, Try.ntmps23
      go_wp2_with fail
      go_ret2
      exact ⟨rfl, Below.refl _ _⟩
  | true =>
    obtain ⟨hz, p, rfl, p1, p2⟩ := okStop_parts hok
    have HX := Lib.hid (vStopAt_yes hok)
    rw [HX.out]
    obtain ⟨Z, hZ⟩ : ∃ Z, stopF (fun j => z.getD j 0) p (z.length - p) 1 = Z := ⟨_, rfl⟩
    have HZ := Lib.hid hZ
    rw [hZ]
    obtain ⟨N, hN⟩ : ∃ N, z.length - p = N := ⟨_, rfl⟩
    rw [hN] at HZ
    have HN := Lib.hid hN
    have hz' : (z.length : Int) ≤ 256 := by omega
    have hp1 : (1 : Int) ≤ (p : Int) := by omega
    have hp2 : (p : Int) ≤ 256 := by omega
    have hb1 : decide ((256 : Int) < (z.length : Int)) = false := by simp; omega
    have hb2 : decide ((p : Int) < 1) = false := by simp; omega
    have hb3 : decide ((256 : Int) < (p : Int)) = false := by simp; omega
    have hEnt : ∀ (xs : Array Value) (wr : World), (callFunc 73 xs).run Try.prog wr = .ok (.enter 73 xs) wr := enters_of Try.func73 (by kernel_rfl) (by kernel_rfl)
    clear hok hZ hN HX
    go_enter Try.func23, Try.ntmps23
    go_wp2_with fail
    go_loopw [7] (fun iv wr => StopRelI z p N Z w iv wr) (fun iv _ => z.length + 1 - (intOf iv).toNat)
    case atStart => exact ⟨0, Nat.zero_le _, by simp, HZ.out, Below.refl _ _⟩
    case round =>
      obtain ⟨c, hc, rfl, hst, hbw⟩ := hrel
      have HST := Lib.hid hst
      have HBW := Lib.hid hbw
      have hcN : (c : Int) ≤ 256 := by have := HN.out; omega
      clear hst hbw HZ
      by_cases hlt : c + 1 + p ≤ z.length
      · have hlt' : (c : Int) + 1 + (p : Int) ≤ (z.length : Int) := by omega
        have hc1 : (0 : Int) ≤ (c : Int) + 1 := by omega
        have hc2 : (c : Int) + 1 ≤ (z.length : Int) := by omega
        have hne : ¬ cap = c + 1 := by omega
        obtain ⟨b0, off, rfl⟩ : ∃ b0 off, a = some ⟨b0, off, none⟩ := by
          rcases HF.out.2.2.2.2 with h0 | ⟨b0, off, h0, _⟩
          · omega
          · exact ⟨b0, off, h0⟩
        have HM := Lib.hid (isFloats_pre HF.out (c + 1) (by omega))
        have HPT := Lib.hid (isFloats_fromC HF.out (c + 1) p (by omega) (by omega))
        go_wp2_with fail
        refine (c_sliceMin _ _ _ _ _ (HM.out.kept HBW.out) (by omega) (by omega)).mono ?_
        rintro e w1 ⟨r, m, rfl, hr, hp, rfl⟩
        have HR := Lib.hid hr
        have HP := Lib.hid (fun x hx => (hp x hx).trans (lessAll_take z x (c + 1)))
        have HBW1 := Lib.hid (below_drewN HBW.out m)
        clear hr hp
        generalize wr.drewN m = w1 at HBW1 ⊢
        go_wp2_with fail
        have HB2 := Lib.hid (HBW1.out.alloc HBW1.out.size (.cells #[.float .f32 r] 37))
        have K2 := Lib.hid (Blk.new w1 37 #[.float .f32 r])
        have HLT := Lib.hid HF.out.2.2.2.1
        refine (c_containsF 73 #[.pointer (some ⟨w1.heap.size, 0, none⟩)] (fun x => ltF x r) _ _ _ _ _ (HPT.out.kept HB2.out) hEnt (fun x _ _ => c_isLess _ x r _ (K2.out.cell 0))).mono ?_
        rintro e w' ⟨rfl, rfl⟩
        rw [any_part z r (c + 1) p hlt HP.out HLT.out]
        obtain ⟨t, ht⟩ : ∃ t, N - c = t + 1 := ⟨N - c - 1, by have := HN.out; omega⟩
        cases hfu : freshUp (fun j => z.getD j 0) (c + 1) p with
        | true =>
          have HST2 := Lib.hid (show stopF (fun j => z.getD j 0) p (N - (c + 1)) (c + 1 + 1) = Z by
            have h1 := HST.out
            rw [ht, stopF_yes hfu] at h1
            rw [show N - (c + 1) = t by omega]
            exact h1)
          clear hfu
          go_wp2_with fail
          go_roundw
          case rel => exact ⟨c + 1, by omega, by go_num, HST2.out, HB2.out⟩
          case measure => simp [intOf]; omega
        | false =>
          have HST2 := Lib.hid (show some (c + 1 + p - 1) = Z by
            have h1 := HST.out
            rw [ht, stopF_no hfu] at h1
            exact h1)
          clear hfu
          go_wp2_with fail
          go_ret2
          exact ⟨by rw [← HST2.out]; simp [endB]; omega, HB2.out⟩
      · have hlt' : (z.length : Int) < (c : Int) + 1 + (p : Int) := by omega
        have HST2 := Lib.hid (show none = Z by
          have h1 := HST.out
          rw [show N - c = 0 by have := HN.out; omega] at h1
          exact h1)
        go_wp2_with fail
        go_ret2
        exact ⟨by rw [← HST2.out]; rfl, HBW.out⟩
end Go.Proofs.Ythklfkfhhdglcaa
