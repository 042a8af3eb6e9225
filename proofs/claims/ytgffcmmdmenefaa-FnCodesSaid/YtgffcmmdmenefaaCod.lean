/-
  Codes of numbers: the same for the program and for its model, for any function that makes quotients whole. Conditions: the numbers can be read.
-/
import Derived.Test.YtgffcmmdmenefaaLim
import Derived.Test.YtgffcmmdmenefaaGrJ
import Derived.Test.YtgffcmmdmenefaaSpr
import Derived.Test.YtgffcmmdmenefaaNext
namespace Go.Proofs.Ytgffcmmdmenefaa
open Go.RowKit Go.Deep Go.WideShapes Go.ChangeShapes
set_option linter.unusedVariables false
attribute [local go_sem] World.drewN_zero

def okSpr (s : Nat) : Bool := decide (s < 2139095040)
theorem spr_fin {s : Nat} (h : okSpr s = true) : fin32 s = true ∧ s < 2139095040 := by
  simp only [okSpr, decide_eq_true_eq] at h
  exact ⟨by simp only [fin32, decide_eq_true_eq]; omega, h⟩
theorem c_isSpread (s : Nat) (hs : s < 4294967296) (w : World) : Calls Try.prog 69 #[.float .f32 s] w fun e w' => e = .returned (.bool (okSpr s)) ∧ w = w' := by
  cases hf : fin32 s with
  | false =>
    have HF := Lib.hid hf
    have HX := Lib.hid (show okSpr s = false by
      cases h : okSpr s with
      | false => rfl
      | true => rw [(spr_fin h).1] at hf; cases hf)
    rw [HX.out]
    clear hf
    go_enter Try.func69, Try.ntmps69
    go_wp2_with (go_at_call 48; refine (c_iIsFinite _ hs _).mono ?_; rintro e w' ⟨rfl, rfl⟩; rw [HF.out])
    go_ret
    exact ⟨rfl, rfl⟩
  | true =>
    have HF := Lib.hid hf
    by_cases h1 : s < 2147483648
    · have hb := b_sign0 s h1
      have HX := Lib.hid (show okSpr s = true by simp only [fin32, decide_eq_true_eq] at hf; simp only [okSpr, decide_eq_true_eq]; omega)
      rw [HX.out]
      clear hf h1
      go_enter Try.func69, Try.ntmps69
      go_wp2_with (first | (go_at_call 48; refine (c_iIsFinite _ hs _).mono ?_; rintro e w' ⟨rfl, rfl⟩; rw [HF.out]) | go_in)
      go_ret
      exact ⟨rfl, rfl⟩
    · have hb := b_sign1 s (by omega) hs
      have HX := Lib.hid (show okSpr s = false by simp only [okSpr, decide_eq_false_iff_not]; omega)
      rw [HX.out]
      clear hf h1
      go_enter Try.func69, Try.ntmps69
      go_wp2_with (first | (go_at_call 48; refine (c_iIsFinite _ hs _).mono ?_; rintro e w' ⟨rfl, rfl⟩; rw [HF.out]) | go_in)
      go_ret
      exact ⟨rfl, rfl⟩
theorem c_l06Spread (s : Nat) (hs : s < 4294967296) (w : World) : Calls Try.prog 57 #[.float .f32 s] w fun e w' => e = .returned (.bool (okSpr s)) ∧ Drawn w w' := by
  cases hf : fin32 s with
  | false =>
    have HF := Lib.hid hf
    have HX := Lib.hid (show okSpr s = false by
      cases h : okSpr s with
      | false => rfl
      | true => rw [(spr_fin h).1] at hf; cases hf)
    rw [HX.out]
    clear hf
    go_enter Try.func57, Try.ntmps57
    go_wp2_with (go_at_call 85; refine (c_l01Finite _ _).mono ?_; rintro e w' ⟨rfl, m, rfl⟩; rw [HF.out])
    go_ret
    exact ⟨rfl, Drawn.mk _ _⟩
  | true =>
    have HF := Lib.hid hf
    have hn := fin_num hf
    have HC := Lib.hid (canon_num hn)
    by_cases h1 : s < 2147483648
    · have ho : (FloatKind.f32.format.order s 0 == some .gt || FloatKind.f32.format.order s 0 == some .eq) = true := by
        by_cases e : s = 0
        · rw [ord_eq hs (by decide) hn zero_num (by rw [e])]; rfl
        · rw [ord_gt hs (by decide) hn zero_num (by rw [k32_nn h1, k32_nn (by decide)]; omega)]; rfl
      have hne : ¬ (s : Int) = 2147483648 := by omega
      have HX := Lib.hid (show okSpr s = true by simp only [fin32, decide_eq_true_eq] at hf; simp only [okSpr, decide_eq_true_eq]; omega)
      rw [HX.out]
      clear hf h1 hn
      go_enter Try.func57, Try.ntmps57
      go_wp2_with (first | (go_at_call 85; refine (c_l01Finite _ _).mono ?_; rintro e w' ⟨rfl, m, rfl⟩; rw [HF.out]) | (go_at_call 93; refine (c_l01Bits _ hs _).mono ?_; rintro e w' ⟨rfl, rfl⟩; rw [HC.out]))
      go_ret
      exact ⟨ret_b (by simp; omega), Drawn.mk _ _⟩
    · by_cases h2 : s = 2147483648
      · subst h2
        have ho : (FloatKind.f32.format.order 2147483648 0 == some .gt || FloatKind.f32.format.order 2147483648 0 == some .eq) = true := by
          rw [ord_eq (by decide) (by decide) hn zero_num (by decide)]; rfl
        have HX := Lib.hid (show okSpr 2147483648 = false by decide)
        rw [HX.out]
        clear hf h1 hn
        go_enter Try.func57, Try.ntmps57
        go_wp2_with (first | (go_at_call 85; refine (c_l01Finite _ _).mono ?_; rintro e w' ⟨rfl, m, rfl⟩; rw [HF.out]) | (go_at_call 93; refine (c_l01Bits _ hs _).mono ?_; rintro e w' ⟨rfl, rfl⟩; rw [HC.out]))
        go_ret
        exact ⟨ret_b (by simp), Drawn.mk _ _⟩
      · have ho : (FloatKind.f32.format.order s 0 == some .gt || FloatKind.f32.format.order s 0 == some .eq) = false := by
          rw [ord_lt hs (by decide) hn zero_num (by rw [k32_neg (by omega), k32_nn (by decide)]; omega)]; rfl
        have HX := Lib.hid (show okSpr s = false by simp only [okSpr, decide_eq_false_iff_not]; omega)
        rw [HX.out]
        clear hf h1 hn h2
        go_enter Try.func57, Try.ntmps57
        go_wp2_with (first | (go_at_call 85; refine (c_l01Finite _ _).mono ?_; rintro e w' ⟨rfl, m, rfl⟩; rw [HF.out]) | (go_at_call 93; refine (c_l01Bits _ hs _).mono ?_; rintro e w' ⟨rfl, rfl⟩; rw [HC.out]))
        go_ret
        exact ⟨rfl, Drawn.mk _ _⟩
/-- codes, by what makes the quotients whole -/
def codeF (rv : Nat → Nat) (s : Nat) (k : Nat) : Int := if s = 0 then 0 else lim (rv k)
def vCodes (z : List Nat) (s : Nat) (rv : Nat → Nat) : Bool × List Int := if (okFin z && okSpr s) = true then (true, (List.range z.length).map (codeF rv s)) else (false, [])
theorem vCodes_yes {z : List Nat} {s : Nat} {rv : Nat → Nat} (h1 : okFin z = true) (h2 : okSpr s = true) : vCodes z s rv = (true, (List.range z.length).map (codeF rv s)) := by unfold vCodes; rw [if_pos (by rw [h1, h2]; rfl)]
theorem vCodes_no {z : List Nat} {s : Nat} {rv : Nat → Nat} (h : okFin z = false ∨ okSpr s = false) : vCodes z s rv = (false, []) := by
  unfold vCodes
  rw [if_neg]
  rcases h with h | h <;> simp [h]
theorem wf_128 {n : Int} (h : -128 ≤ n ∧ n ≤ 128) : (Lit.int .i64 n).wf = true := by
  simp [Lit.wf, IntKind.min, IntKind.max, IntKind.signed, IntKind.bits]
  omega
theorem code_wf {rv : Nat → Nat} {s k : Nat} (h : rv k < 18446744073709551616) : (Lit.int .i64 (codeF rv s k)).wf = true := by
  unfold codeF
  split
  · rfl
  · exact wf_128 (lim_in _ h)
set_option maxRecDepth 20000 in
set_option maxHeartbeats 2000000 in
theorem c_codesBy (F : FuncId) (pre : Array Value) (rv : Nat → Nat) (z : List Nat) (s : Nat) (a0 : Option Addr) (w : World) (h : IsFloats .f32 w a0 z.length z.length z) (hs : s < 4294967296)
    (hE : ∀ (xs : Array Value) (wr : World), (callFunc F xs).run Try.prog wr = .ok (.enter F xs) wr)
    (hrv : okFin z = true → okSpr s = true → 0 < s → ∀ k, k < z.length → rv k < 18446744073709551616 ∧ isNan .f64 (rv k) = false)
    (hF : okFin z = true → okSpr s = true → 0 < s → ∀ (k : Nat) (wr : World), k < z.length → Below w.heap.size w wr → Calls Try.prog F (pre ++ #[.int .i64 k, .float .f64 (vq (z.getD k 0) s)]) wr fun e w' => e = .returned (.float .f64 (rv k)) ∧ Drawn wr w') :
    Calls Try.prog 60 #[.slice a0 z.length z.length, .float .f32 s, .func (.func F) pre #[]] w (RetI (vCodes z s rv).1 (vCodes z s rv).2 w) := by
  have HF := Lib.hid h
  have hmax : z.length ≤ 9223372036854775807 := by have := h.2.1; unfold maxLen at this; exact this
  cases hk : okFin z with
  | false =>
    have HX := Lib.hid (vCodes_no (s := s) (rv := rv) (.inl hk))
    have HK := Lib.hid hk
    rw [HX.out]
    clear h hk hrv hF
    go_enter Try.func60, Try.ntmps60
    go_wp2_with fail
    refine (c_haveCodes _ _ _ _ _ HF.out).mono ?_
    rintro e w' ⟨rfl, hb⟩
    rw [HK.out]
    have HB := Lib.hid hb
    clear hb
    go_wp2_with fail
    go_ret2
    exact ⟨none, 0, [], rfl, nil_ownI _ _, rfl, HB.out⟩
  | true =>
    cases hk2 : okSpr s with
    | false =>
      have HX := Lib.hid (vCodes_no (z := z) (rv := rv) (.inr hk2))
      have HK := Lib.hid hk
      have HK2 := Lib.hid hk2
      rw [HX.out]
      clear h hk hk2 hrv hF
      go_enter Try.func60, Try.ntmps60
      go_wp2_with fail
      refine (c_haveCodes _ _ _ _ _ HF.out).mono ?_
      rintro e w' ⟨rfl, hb⟩
      rw [HK.out]
      have HB := Lib.hid hb
      clear hb
      go_wp2_with (go_at_call 69; refine (c_isSpread _ hs _).mono ?_; rintro e w' ⟨rfl, rfl⟩; rw [HK2.out])
      go_ret2
      exact ⟨none, 0, [], rfl, nil_ownI _ _, rfl, HB.out⟩
    | true =>
      have HX := Lib.hid (vCodes_yes (rv := rv) hk hk2)
      have HK := Lib.hid hk
      have HK2 := Lib.hid hk2
      have hfew := okFin_few hk
      rw [HX.out]
      obtain ⟨i0, hi, hz0, hz1, hz2⟩ := info_parts info_j64
      have JI := Lib.hid hi
      have HZ0 := Lib.hid hz0
      have HZ1 := Lib.hid hz1
      have HZ2 := Lib.hid hz2
      clear hi hz0 hz1 hz2
      by_cases h0 : s = 0
      · subst h0
        have ho : FloatKind.f32.format.order 0 0 = some .eq := order_refl zero_num
        clear h hk hk2 hrv hF HX
        go_enter Try.func60, Try.ntmps60
        go_wp2_with fail
        refine (c_haveCodes _ _ _ _ _ HF.out).mono ?_
        rintro e w0 ⟨rfl, hb⟩
        rw [HK.out]
        have HB0 := Lib.hid hb
        clear hb
        go_wp2_with (first | (go_at_call 69; refine (c_isSpread _ hs _).mono ?_; rintro e w' ⟨rfl, rfl⟩; rw [HK2.out]) | (at_make; refine wpList_make_full _ rfl _ _ 41 rfl w0.heap.size 2 i0 (.int .i64 0) 1 Try.underlying41 JI.out HZ0.out HZ1.out _ _ _ _ z.length rfl rfl rfl rfl ?c1 ?c2 ?c3 ?_))
        case c1 => rw [HZ2.out]; omega
        case c2 => unfold maxLen; omega
        case c3 => exact Nat.le_refl _
        intro w1 hown hgrow
        have hb1 : Below w0.heap.size w0 w1 := (Below.refl _ _).grown hgrow (Nat.le_refl _) (fun k h => by cases h)
        rw [toList_madeCells_one] at hown
        have HO := Lib.hid (funJ_end (f := codeF rv 0) (n := z.length) (w := w0) (gd := w0.heap.size) (fun i _ => by show (Lit.int .i64 (if 0 = 0 then 0 else _)).wf = true; rw [if_pos rfl]; rfl) (by
          have e : partJ ((List.range z.length).map (codeF rv 0)) z.length = List.replicate z.length (Value.int .i64 0) := by
            unfold partJ
            simp
            exact List.eq_replicate_iff.2 ⟨by simp, fun b hb => by obtain ⟨x, _, rfl⟩ := List.mem_map.1 hb; rfl⟩
          rw [e]
          exact hown))
        have HB := Lib.hid (HB0.out.trans (hb1.mono HB0.out.size))
        have HL := Lib.hid (show ((List.range z.length).map (codeF rv 0)).length = z.length by simp)
        clear hown hb1 hgrow
        go_wp2_with fail
        go_ret2
        exact ⟨some ⟨w0.heap.size, 0, none⟩, z.length, _, by rw [HL.out]; rfl, HO.out.base HB0.out.size, rfl, HB.out⟩
      · have hp : 0 < s := Nat.pos_of_ne_zero h0
        obtain ⟨hsf, hsl⟩ := spr_fin hk2
        have ho : (FloatKind.f32.format.order s 0 == some .eq) = false := by
          rw [ord_gt hs (by decide) (fin_num hsf) zero_num (by rw [k32_nn (show s < 2147483648 by omega), k32_nn (show 0 < 2147483648 by decide)]; omega)]; rfl
        have HRV := Lib.hid (hrv hk hk2 hp)
        have HFN := Lib.hid (hF hk hk2 hp)
        have HQ := Lib.hid (fun k (hk' : k < z.length) => vq_at (okFin_at hk hk') hp hsl)
        have HWS := wide_at hsf
        have HCF := Lib.hid (show ∀ k, codeF rv s k = lim (rv k) from fun k => if_neg h0)
        obtain ⟨S, hS⟩ : ∃ x, cwide s = x := ⟨_, rfl⟩
        rw [hS] at HQ HWS
        obtain ⟨hw1, hw2⟩ := HWS
        clear h hk hk2 hrv hF HX hS hsf hsl hp h0
        go_enter Try.func60, Try.ntmps60
        go_wp2_with fail
        refine (c_haveCodes _ _ _ _ _ HF.out).mono ?_
        rintro e w0 ⟨rfl, hb⟩
        rw [HK.out]
        have HB0 := Lib.hid hb
        clear hb
        go_wp2_with (first | (go_at_call 69; refine (c_isSpread _ hs _).mono ?_; rintro e w' ⟨rfl, rfl⟩; rw [HK2.out]) | (at_make; refine wpList_make_full _ rfl _ _ 41 rfl w0.heap.size 2 i0 (.int .i64 0) 1 Try.underlying41 JI.out HZ0.out HZ1.out _ _ _ _ z.length rfl rfl rfl rfl ?c1 ?c2 ?c3 ?_))
        case c1 => rw [HZ2.out]; omega
        case c2 => unfold maxLen; omega
        case c3 => exact Nat.le_refl _
        intro w1 hown hgrow
        have hb1 : Below w0.heap.size w0 w1 := (Below.refl _ _).grown hgrow (Nat.le_refl _) (fun k h => by cases h)
        rw [toList_madeCells_one] at hown
        have HO := Lib.hid hown
        have HB := Lib.hid hb1
        have HF1 := Lib.hid (HF.out.kept HB0.out)
        clear hown hb1 hgrow
        go_wp2_with fail
        go_loopw [28] (fun i wr => FunRelJ (codeF rv s) z.length w0.heap.size w0 i wr) (fun i _ => z.length - (intOf i).toNat)
        case atStart => exact ⟨0, Nat.zero_le _, rfl, by simpa [partJ] using HO.out, HB.out⟩
        case round =>
          obtain ⟨k, hk, rfl, ho', hbl⟩ := hrel
          have HO' := Lib.hid ho'
          have HL := Lib.hid hbl
          have hk0 : (0 : Int) ≤ (k : Int) := by omega
          clear ho' hbl
          by_cases hlt : k < z.length
          · have hlt' : (k : Int) < (z.length : Int) := by omega
            rcases HF1.out.2.2.2.2 with h' | ⟨ab, off, rfl, hab, hcell⟩
            · omega
            have hx : wr.cell? ⟨ab, off + k, none⟩ = some (.float .f32 (z.getD k 0)) := (HL.out.cell (p := ⟨ab, off + k, none⟩) hab).trans (hcell k hlt)
            obtain ⟨q1, q2, q3, q4⟩ := HQ.out k hlt
            obtain ⟨x1, x2⟩ := wide_at (okFin_at HK.out hlt)
            obtain ⟨v1, v2⟩ := HRV.out k hlt
            have HFK := Lib.hid (HFN.out k)
            obtain ⟨u, m1, m2, m3, m4⟩ := clamp_ways v1 v2
            have hcv := fun w => run_f2i (clamp_val v1) w
            have HST := Lib.hid (fun (w2 : World) (hb : Below wr.heap.size wr w2) => funJ_step (f := codeF rv s) (Nat.le_refl _) hlt HO'.out HL.out hb)
            have HCK := Lib.hid (HCF.out k)
            obtain ⟨X, hX⟩ : ∃ x, cwide (z.getD k 0) = x := ⟨_, rfl⟩
            obtain ⟨q, hq⟩ : ∃ x, vq (z.getD k 0) s = x := ⟨_, rfl⟩
            rw [hX] at q2
            simp only [hX, hq] at q1 x1
            rw [hq] at HFK
            obtain ⟨x, hz⟩ : ∃ y, z.getD k 0 = y := ⟨_, rfl⟩
            rw [hz] at hx x2
            simp only [hz] at x1
            obtain ⟨v, hv⟩ : ∃ y, rv k = y := ⟨_, rfl⟩
            rw [hv] at HCK m2 HFK
            simp only [hv] at m1 m3 hcv
            obtain ⟨L, hL⟩ : ∃ y, lim v = y := ⟨_, rfl⟩
            rw [hL] at HCK
            simp only [hL] at hcv
            obtain ⟨C, hC⟩ : ∃ y, clampC v = y := ⟨_, rfl⟩
            simp only [hC] at m3 hcv
            clear hcell hX hq hz q3 q4 v1 v2 hv hL hC
            go_wp2_with fail
            refine (HFK.out _ hlt (HB0.out.trans (HL.out.mono HB0.out.size))).mono ?_
            rintro e w2 ⟨rfl, n2, rfl⟩
            obtain ⟨hfz, v0, hv0⟩ := funJ_cell hlt HO'.out (below_drewN (Below.refl wr.heap.size wr) n2)
            go_wp2_with fail
            go_roundw
            case rel =>
              have := HST.out _ (below_drewN (Below.refl wr.heap.size wr) n2)
              rw [HCK.out] at this
              exact this
            case measure => simp [intOf]; omega
          · obtain rfl : k = z.length := by omega
            have HE := Lib.hid (funJ_end (f := codeF rv s) (n := z.length) (w := w0) (gd := w0.heap.size) (fun i hi => code_wf (HRV.out i hi).1) HO'.out)
            have HLL := Lib.hid (show ((List.range z.length).map (codeF rv s)).length = z.length by simp)
            go_wp2_with fail
            go_ret2
            exact ⟨some ⟨w0.heap.size, 0, none⟩, z.length, _, by rw [HLL.out]; rfl, HE.out.base HB0.out.size, rfl, HB0.out.trans (HL.out.mono HB0.out.size)⟩
end Go.Proofs.Ytgffcmmdmenefaa
