/-
  BestStep: the index of the first least number; the model and the program. Conditions: none.
-/
import Derived.Test.YthklfkfhhdglcaaOp5
import Derived.Test.YthklfkfhhdglcaaNext
import Derived.BigQuiet
import Derived.Deep.QuietTactic
namespace Go.Proofs.Ythklfkfhhdglcaa
open Go.RowKit Go.Deep Go.WideShapes Go.ChangeShapes
set_option linter.unusedVariables false

def ltF (x y : Nat) : Bool := FloatKind.f32.format.order x y == some .lt
/-- the index of the first least one of the first k numbers, of those that are numbers -/
def bestF (f : Nat → Nat) : Nat → Option Nat
  | 0 => none
  | k + 1 => if isNan .f32 (f k) = true then bestF f k else match bestF f k with
    | none => some k
    | some b => if ltF (f k) (f b) = true then some k else some b
theorem bestF_lt {f : Nat → Nat} : ∀ {k b : Nat}, bestF f k = some b → b < k
  | 0, b, h => by cases h
  | k + 1, b, h => by
    unfold bestF at h
    split at h
    · exact Nat.lt_succ_of_lt (bestF_lt h)
    · split at h
      · cases h; exact Nat.lt_succ_self k
      · rename_i c hc
        split at h
        · cases h; exact Nat.lt_succ_self k
        · cases h; exact Nat.lt_succ_of_lt (bestF_lt hc)
theorem bestF_nan {f : Nat → Nat} {k : Nat} (h : isNan .f32 (f k) = true) : bestF f (k + 1) = bestF f k := if_pos h
theorem bestF_none {f : Nat → Nat} {k : Nat} (h : isNan .f32 (f k) = false) (hb : bestF f k = none) : bestF f (k + 1) = some k := by
  show (if _ then _ else _) = _
  rw [if_neg (by rw [h]; decide), hb]
theorem bestF_yes {f : Nat → Nat} {k b : Nat} (h : isNan .f32 (f k) = false) (hb : bestF f k = some b) (hl : (FloatKind.f32.format.order (f k) (f b) == some .lt) = true) : bestF f (k + 1) = some k := by
  show (if _ then _ else _) = _
  rw [if_neg (by rw [h]; decide), hb]
  exact if_pos hl
theorem bestF_no {f : Nat → Nat} {k b : Nat} (h : isNan .f32 (f k) = false) (hb : bestF f k = some b) (hl : (FloatKind.f32.format.order (f k) (f b) == some .lt) = false) : bestF f (k + 1) = some b := by
  show (if _ then _ else _) = _
  rw [if_neg (by rw [h]; decide), hb]
  exact if_neg (by rw [ltF, hl]; decide)
def encB : Option Nat → Int
  | none => -1
  | some b => b
def endB : Option Nat → Int × Bool
  | none => (0, false)
  | some b => (b, true)
def vBestStep (z : List Nat) : Int × Bool := if z.length ≤ 256 then endB (bestF (fun j => z.getD j 0) z.length) else (0, false)
theorem vBestStep_few {z : List Nat} (h : z.length ≤ 256) : vBestStep z = endB (bestF (fun j => z.getD j 0) z.length) := if_pos h
theorem vBestStep_many {z : List Nat} (h : 257 ≤ z.length) : vBestStep z = (0, false) := if_neg (by omega)
theorem eq_self (x : Nat) : (FloatKind.f32.format.order x x == some .eq) = !isNan .f32 x := order_self .f32 x
def BesRel (z : List Nat) (n : Nat) (w : World) (s i : Value) (wr : World) : Prop := ∃ k m : Nat, k ≤ n ∧ i = .int .i64 k ∧ s = .int .i64 (encB (bestF (fun j => z.getD j 0) k)) ∧ wr = w.drewN m
set_option maxHeartbeats 1000000 in
theorem t_sBestStep (z : List Nat) (a : Option Addr) (w : World) (h : IsFloats .f32 w a z.length z.length z) : Calls Try.prog 56 #[.slice a z.length z.length] w (RetN (vBestStep z).1 (vBestStep z).2 w) := by
  have HF := Lib.hid h
  have hmax : z.length ≤ 9223372036854775807 := by have := h.2.1; unfold maxLen at this; exact this
  have HLT := Lib.hid h.2.2.2.1
  clear h
  by_cases h2 : z.length ≤ 256
  case neg =>
    have HX := Lib.hid (vBestStep_many (z := z) (by omega))
    rw [HX.out]
    have H2 := Lib.hid (show decide (z.length ≤ 256) = false by simp [h2])
    have h2' : (256 : Int) < (z.length : Int) := by omega
    clear h2
    have h0 : (0 : Int) < (z.length : Int) := by omega
    go_enter Try.func56, Try.ntmps56
    go_wp2_with fail
    refine wp_loop_rounds 1 ?_
    rw [rounds_succ]
    go_wp2_with (go_at_call 119; refine (c_l01Few _ _ _ _).mono ?_; rintro e w' ⟨rfl, rfl⟩; rw [H2.out])
    go_ret2
    exact ⟨rfl, Below.refl _ _⟩
  have HX := Lib.hid (vBestStep_few h2)
  rw [HX.out]
  have H2 := Lib.hid (show decide (z.length ≤ 256) = true by simp [h2])
  have h2' : (z.length : Int) ≤ 256 := by omega
  go_enter Try.func56, Try.ntmps56
  go_wp2_with fail
  go_loopw [4, 5] (fun s i wr => BesRel z z.length w s i wr) (fun _ i _ => z.length - (intOf i).toNat)
  case atStart => exact ⟨0, 0, Nat.zero_le _, rfl, rfl, rfl⟩
  case round =>
    obtain ⟨k, m, hk, rfl, rfl, rfl⟩ := hrel
    have hk0 : (0 : Int) ≤ (k : Int) := by omega
    by_cases hlt : k < z.length
    · have hlt' : (k : Int) < (z.length : Int) := by omega
      rcases HF.out.2.2.2.2 with h0 | ⟨b0, off, rfl, _, hc⟩
      · omega
      have c1 := hc k hlt
      have HXL := Lib.hid (show z.getD k 0 < 4294967296 by
        have : z.getD k 0 ∈ z := by simp [List.getD, hlt]
        exact HLT.out _ this)
      cases hn : isNan .f32 (z.getD k 0) with
      | true =>
        have HB := Lib.hid (bestF_nan (f := fun j => z.getD j 0) (k := k) hn)
        have hq := eq_self (z.getD k 0)
        rw [hn] at hq
        have HNB := Lib.hid (show decide (2139095040 < z.getD k 0 % 2147483648) = true by rw [isNan32] at hn; simpa using hn)
        obtain ⟨q, hqq⟩ : ∃ q, encB (bestF (fun j => z.getD j 0) k) = q := ⟨_, rfl⟩
        have HQ := Lib.hid hqq
        rw [hqq]
        obtain ⟨x, hx⟩ : ∃ x, z.getD k 0 = x := ⟨_, rfl⟩
        rw [hx] at c1 hq HNB HXL
        clear hc hn hqq hx
        go_wp2_with (go_at_call 119; refine (c_l01Few _ _ _ _).mono ?_; rintro e w' ⟨rfl, rfl⟩; rw [H2.out])
        go_quiet (fail)
        go_wp2_with fail
        go_roundw
        case rel => exact ⟨k + 1, _, hlt, by go_num, by rw [HB.out, HQ.out], rfl⟩
        case measure => simp [intOf]; omega
      | false =>
        have hq := eq_self (z.getD k 0)
        rw [hn] at hq
        have HNB := Lib.hid (show decide (2139095040 < z.getD k 0 % 2147483648) = false by rw [isNan32] at hn; simpa using hn)
        cases hb : bestF (fun j => z.getD j 0) k with
        | none =>
          have HB := Lib.hid (bestF_none (f := fun j => z.getD j 0) (k := k) hn hb)
          show Code.wp _ _ _ _ _
          have he : encB none = (-1 : Int) := rfl
          rw [he]
          obtain ⟨x, hx⟩ : ∃ x, z.getD k 0 = x := ⟨_, rfl⟩
          rw [hx] at c1 hq HNB HXL
          clear hc hn hx hb he
          go_wp2_with (go_at_call 119; refine (c_l01Few _ _ _ _).mono ?_; rintro e w' ⟨rfl, rfl⟩; rw [H2.out])
          go_quiet (fail)
          go_wp2_with fail
          go_roundw
          case rel => exact ⟨k + 1, _, hlt, by go_num, by rw [HB.out]; rfl, rfl⟩
          case measure => simp [intOf]; omega
        | some b =>
          have hbl := bestF_lt hb
          have c2 := hc b (by omega)
          have hb0 : (0 : Int) ≤ (b : Int) := by omega
          have hb1 : (b : Int) < (z.length : Int) := by omega
          have he : encB (some b) = (b : Int) := rfl
          rw [he]
          cases hl : (FloatKind.f32.format.order (z.getD k 0) (z.getD b 0) == some .lt) with
          | true =>
            have HB := Lib.hid (bestF_yes (f := fun j => z.getD j 0) (k := k) hn hb hl)
            obtain ⟨x, hx⟩ : ∃ x, z.getD k 0 = x := ⟨_, rfl⟩
            obtain ⟨y, hy⟩ : ∃ x, z.getD b 0 = x := ⟨_, rfl⟩
            rw [hx] at c1 hq HNB HXL hl
            rw [hy] at c2 hl
            clear hc hn hx hy hb he
            go_wp2_with (go_at_call 119; refine (c_l01Few _ _ _ _).mono ?_; rintro e w' ⟨rfl, rfl⟩; rw [H2.out])
            go_quiet (fail)
            go_wp2_with fail
            go_roundw
            case rel => exact ⟨k + 1, _, hlt, by go_num, by rw [HB.out]; rfl, rfl⟩
            case measure => simp [intOf]; omega
          | false =>
            have HB := Lib.hid (bestF_no (f := fun j => z.getD j 0) (k := k) hn hb hl)
            obtain ⟨x, hx⟩ : ∃ x, z.getD k 0 = x := ⟨_, rfl⟩
            obtain ⟨y, hy⟩ : ∃ x, z.getD b 0 = x := ⟨_, rfl⟩
            rw [hx] at c1 hq HNB HXL hl
            rw [hy] at c2 hl
            clear hc hn hx hy hb he
            go_wp2_with (go_at_call 119; refine (c_l01Few _ _ _ _).mono ?_; rintro e w' ⟨rfl, rfl⟩; rw [H2.out])
            go_quiet (fail)
            go_wp2_with fail
            go_roundw
            case rel => exact ⟨k + 1, _, hlt, by go_num, by rw [HB.out]; rfl, rfl⟩
            case measure => simp [intOf]; omega
    · obtain rfl : k = z.length := by omega
      cases hb : bestF (fun j => z.getD j 0) z.length with
      | none =>
        have he : encB none = (-1 : Int) := rfl
        rw [he]
        go_wp2_with fail
        go_ret2
        exact ⟨by rw [hb]; rfl, below_drewN (Below.refl _ _) _⟩
      | some b =>
        have he : encB (some b) = (b : Int) := rfl
        have hb0 : (0 : Int) ≤ (b : Int) := by omega
        rw [he]
        go_wp2_with fail
        go_ret2
        exact ⟨by rw [hb]; rfl, below_drewN (Below.refl _ _) _⟩
set_option maxHeartbeats 1000000 in
theorem t_iBestStep (z : List Nat) (a : Option Addr) (w : World) (h : IsFloats .f32 w a z.length z.length z) : Calls Try.prog 22 #[.slice a z.length z.length] w (RetN (vBestStep z).1 (vBestStep z).2 w) := by
  have HF := Lib.hid h
  have hmax : z.length ≤ 9223372036854775807 := by have := h.2.1; unfold maxLen at this; exact this
  have HLT := Lib.hid h.2.2.2.1
  clear h
  by_cases h2 : z.length ≤ 256
  case neg =>
    have HX := Lib.hid (vBestStep_many (z := z) (by omega))
    rw [HX.out]
    have H2 := Lib.hid (show decide (z.length ≤ 256) = false by simp [h2])
    have h2' : (256 : Int) < (z.length : Int) := by omega
    clear h2
    go_enter Try.func22, Try.ntmps22
    go_wp2_with fail
    go_ret2
    exact ⟨rfl, Below.refl _ _⟩
  have HX := Lib.hid (vBestStep_few h2)
  rw [HX.out]
  have H2 := Lib.hid (show decide (z.length ≤ 256) = true by simp [h2])
  have h2' : (z.length : Int) ≤ 256 := by omega
  go_enter Try.func22, Try.ntmps22
  go_wp2_with fail
  go_loopw [4, 12] (fun s i wr => BesRel z z.length w s i wr) (fun _ i _ => z.length - (intOf i).toNat)
  case atStart => exact ⟨0, 0, Nat.zero_le _, rfl, rfl, rfl⟩
  case round =>
    obtain ⟨k, m, hk, rfl, rfl, rfl⟩ := hrel
    have hk0 : (0 : Int) ≤ (k : Int) := by omega
    by_cases hlt : k < z.length
    · have hlt' : (k : Int) < (z.length : Int) := by omega
      rcases HF.out.2.2.2.2 with h0 | ⟨b0, off, rfl, _, hc⟩
      · omega
      have c1 := hc k hlt
      have HXL := Lib.hid (show z.getD k 0 < 4294967296 by
        have : z.getD k 0 ∈ z := by simp [List.getD, hlt]
        exact HLT.out _ this)
      cases hn : isNan .f32 (z.getD k 0) with
      | true =>
        have HB := Lib.hid (bestF_nan (f := fun j => z.getD j 0) (k := k) hn)
        have hq := eq_self (z.getD k 0)
        rw [hn] at hq
        have HNB := Lib.hid (show decide (2139095040 < z.getD k 0 % 2147483648) = true by rw [isNan32] at hn; simpa using hn)
        obtain ⟨q, hqq⟩ : ∃ q, encB (bestF (fun j => z.getD j 0) k) = q := ⟨_, rfl⟩
        have HQ := Lib.hid hqq
        rw [hqq]
        obtain ⟨x, hx⟩ : ∃ x, z.getD k 0 = x := ⟨_, rfl⟩
        rw [hx] at c1 hq HNB HXL
        clear hc hn hqq hx
        go_wp2_with (first | (go_at_call 70; refine (c_wordOf _ _).mono ?_; rintro e w' ⟨rfl, rfl⟩) | (go_at_call 71; refine (c_isNan _ HXL.out _).mono ?_; rintro e w' ⟨rfl, rfl⟩; rw [HNB.out]))
        go_roundw
        case rel => exact ⟨k + 1, _, hlt, by go_num, by rw [HB.out, HQ.out], rfl⟩
        case measure => simp [intOf]; omega
      | false =>
        have hq := eq_self (z.getD k 0)
        rw [hn] at hq
        have HNB := Lib.hid (show decide (2139095040 < z.getD k 0 % 2147483648) = false by rw [isNan32] at hn; simpa using hn)
        cases hb : bestF (fun j => z.getD j 0) k with
        | none =>
          have HB := Lib.hid (bestF_none (f := fun j => z.getD j 0) (k := k) hn hb)
          show Code.wp _ _ _ _ _
          have he : encB none = (-1 : Int) := rfl
          rw [he]
          obtain ⟨x, hx⟩ : ∃ x, z.getD k 0 = x := ⟨_, rfl⟩
          rw [hx] at c1 hq HNB HXL
          clear hc hn hx hb he
          go_wp2_with (first | (go_at_call 70; refine (c_wordOf _ _).mono ?_; rintro e w' ⟨rfl, rfl⟩) | (go_at_call 71; refine (c_isNan _ HXL.out _).mono ?_; rintro e w' ⟨rfl, rfl⟩; rw [HNB.out]))
          go_roundw
          case rel => exact ⟨k + 1, _, hlt, by go_num, by rw [HB.out]; rfl, rfl⟩
          case measure => simp [intOf]; omega
        | some b =>
          have hbl := bestF_lt hb
          have c2 := hc b (by omega)
          have hb0 : (0 : Int) ≤ (b : Int) := by omega
          have hb1 : (b : Int) < (z.length : Int) := by omega
          have he : encB (some b) = (b : Int) := rfl
          rw [he]
          cases hl : (FloatKind.f32.format.order (z.getD k 0) (z.getD b 0) == some .lt) with
          | true =>
            have HB := Lib.hid (bestF_yes (f := fun j => z.getD j 0) (k := k) hn hb hl)
            obtain ⟨x, hx⟩ : ∃ x, z.getD k 0 = x := ⟨_, rfl⟩
            obtain ⟨y, hy⟩ : ∃ x, z.getD b 0 = x := ⟨_, rfl⟩
            rw [hx] at c1 hq HNB HXL hl
            rw [hy] at c2 hl
            clear hc hn hx hy hb he
            go_wp2_with (first | (go_at_call 70; refine (c_wordOf _ _).mono ?_; rintro e w' ⟨rfl, rfl⟩) | (go_at_call 71; refine (c_isNan _ HXL.out _).mono ?_; rintro e w' ⟨rfl, rfl⟩; rw [HNB.out]))
            go_roundw
            case rel => exact ⟨k + 1, _, hlt, by go_num, by rw [HB.out]; rfl, rfl⟩
            case measure => simp [intOf]; omega
          | false =>
            have HB := Lib.hid (bestF_no (f := fun j => z.getD j 0) (k := k) hn hb hl)
            obtain ⟨x, hx⟩ : ∃ x, z.getD k 0 = x := ⟨_, rfl⟩
            obtain ⟨y, hy⟩ : ∃ x, z.getD b 0 = x := ⟨_, rfl⟩
            rw [hx] at c1 hq HNB HXL hl
            rw [hy] at c2 hl
            clear hc hn hx hy hb he
            go_wp2_with (first | (go_at_call 70; refine (c_wordOf _ _).mono ?_; rintro e w' ⟨rfl, rfl⟩) | (go_at_call 71; refine (c_isNan _ HXL.out _).mono ?_; rintro e w' ⟨rfl, rfl⟩; rw [HNB.out]))
            go_roundw
            case rel => exact ⟨k + 1, _, hlt, by go_num, by rw [HB.out]; rfl, rfl⟩
            case measure => simp [intOf]; omega
    · obtain rfl : k = z.length := by omega
      cases hb : bestF (fun j => z.getD j 0) z.length with
      | none =>
        have he : encB none = (-1 : Int) := rfl
        rw [he]
        go_wp2_with fail
        go_ret2
        exact ⟨by rw [hb]; rfl, below_drewN (Below.refl _ _) _⟩
      | some b =>
        have he : encB (some b) = (b : Int) := rfl
        have hb0 : (0 : Int) ≤ (b : Int) := by omega
        rw [he]
        go_wp2_with fail
        go_ret2
        exact ⟨by rw [hb]; rfl, below_drewN (Below.refl _ _) _⟩
end Go.Proofs.Ythklfkfhhdglcaa
