/-
  Codes, in the program, where the lists have any capacity. Conditions: the lists can be read.
-/
import Derived.Test.YtgffcmmdmenefaaCof
import Derived.Test.YtgffcmmdmenefaaDtc
import Derived.Deep.RegionLaw
namespace Go.Proofs.Ytgffcmmdmenefaa
open Go.RowKit Go.Deep Go.WideShapes Go.ChangeShapes
set_option linter.unusedVariables false
attribute [local go_sem] World.drewN_zero
set_option maxHeartbeats 1000000 in
theorem t_iNumbersOfC (c : List Int) (s : Nat) (a0 : Option Addr) (cc : Nat) (w : World) (h : IsRow .i64 w a0 c.length cc c) (hs : s < 4294967296) : Calls Try.prog 36 #[.slice a0 c.length cc, .float .f32 s] w (RetL (vNumbersOf c s).1 (vNumbersOf c s).2 w) := by
  have hmax : c.length ≤ 9223372036854775807 := by have := h.2.1; have := h.1; unfold maxLen at *; omega
  have B1 := Lib.hid ((Below.refl w.heap.size w).alloc (Nat.le_refl _) (.cells #[.float .f32 s] 22))
  have K1 := Lib.hid (Blk.new w 22 #[.float .f32 s])
  have HR := Lib.hid (isRow_kept h B1.out)
  cases hk : okCod c with
  | false =>
    have HX := Lib.hid (vNumbersOf_no (s := s) (.inl hk))
    have HK := Lib.hid hk
    rw [HX.out]
    clear h hk
    go_enter Try.func36, Try.ntmps36
    go_wp2_with fail
    refine (c_areCodes _ _ _ _ _ HR.out).mono ?_
    rintro e w1 ⟨rfl, hb⟩
    rw [HK.out]
    have HB := Lib.hid (Below.next B1.out hb)
    clear hb
    go_wp2_with fail
    go_ret2
    exact ⟨none, 0, [], rfl, nil_own _ _, rfl, HB.out⟩
  | true =>
    cases hk2 : okSpr s with
    | false =>
      have HX := Lib.hid (vNumbersOf_no (c := c) (.inr hk2))
      have HK := Lib.hid hk
      have HK2 := Lib.hid hk2
      rw [HX.out]
      clear h hk hk2
      go_enter Try.func36, Try.ntmps36
      go_wp2_with fail
      refine (c_areCodes _ _ _ _ _ HR.out).mono ?_
      rintro e w1 ⟨rfl, hb⟩
      rw [HK.out]
      have HB := Lib.hid (Below.next B1.out hb)
      have p0 := (K1.out.below hb).cell 0
      clear hb
      go_wp2_with (go_at_call 69; refine (c_isSpread _ hs _).mono ?_; rintro e w' ⟨rfl, rfl⟩; rw [HK2.out])
      go_ret2
      exact ⟨none, 0, [], rfl, nil_own _ _, rfl, HB.out⟩
    | true =>
      have HX := Lib.hid (vNumbersOf_yes hk hk2)
      have HK := Lib.hid hk
      have HK2 := Lib.hid hk2
      have hfew := okCod_few hk
      rw [HX.out]
      clear h hk hk2
      go_enter Try.func36, Try.ntmps36
      go_wp2_with fail
      refine (c_areCodes _ _ _ _ _ HR.out).mono ?_
      rintro e w1 ⟨rfl, hb⟩
      rw [HK.out]
      have HB := Lib.hid (Below.next B1.out hb)
      have K2 := Lib.hid (K1.out.below hb)
      have HR2 := Lib.hid (isRow_kept HR.out hb)
      have p0 := K2.out.cell 0
      clear hb
      go_wp2_with (go_at_call 69; refine (c_isSpread _ hs _).mono ?_; rintro e w' ⟨rfl, rfl⟩; rw [HK2.out])
      refine (c_eachOfJ 71 #[.pointer (some ⟨w.heap.size, 0, none⟩)] (fun n => cop .mul .f32 (floatOfInt .f32 n) (canon .f32 s)) _ _ _ c _ HR2.out (by omega) (enters_of Try.func71 (by kernel_rfl) (by kernel_rfl)) (fun x wr hb => x_numbers1 x _ s wr ((K2.out.below hb).cell 0))).mono ?_
      rintro e w' ⟨b, cc, ys, rfl, ho, he, hb⟩
      have HO := Lib.hid ho
      have HE := Lib.hid he
      have HB2 := Lib.hid (Below.next HB.out hb)
      clear ho he hb
      go_wp2_with fail
      go_ret2
      exact ⟨b, cc, ys, rfl, HO.out.base HB.out.size, HE.out, HB2.out⟩
set_option maxRecDepth 20000 in
set_option maxHeartbeats 2000000 in
theorem c_codesByC (cc : Nat) (F : FuncId) (pre : Array Value) (rv : Nat → Nat) (z : List Nat) (s : Nat) (a0 : Option Addr) (w : World) (h : IsFloats .f32 w a0 z.length cc z) (hs : s < 4294967296)
    (hE : ∀ (xs : Array Value) (wr : World), (callFunc F xs).run Try.prog wr = .ok (.enter F xs) wr)
    (hrv : okFin z = true → okSpr s = true → 0 < s → ∀ k, k < z.length → rv k < 18446744073709551616 ∧ isNan .f64 (rv k) = false)
    (hF : okFin z = true → okSpr s = true → 0 < s → ∀ (k : Nat) (wr : World), k < z.length → Below w.heap.size w wr → Calls Try.prog F (pre ++ #[.int .i64 k, .float .f64 (vq (z.getD k 0) s)]) wr fun e w' => e = .returned (.float .f64 (rv k)) ∧ Drawn wr w') :
    Calls Try.prog 60 #[.slice a0 z.length cc, .float .f32 s, .func (.func F) pre #[]] w (RetI (vCodes z s rv).1 (vCodes z s rv).2 w) := by
  have HF := Lib.hid h
  have hmax : z.length ≤ 9223372036854775807 := by have := h.2.1; have := h.1; unfold maxLen at *; omega
  cases hk : okFin z with
  | false =>
    have HX := Lib.hid (vCodes_no (s := s) (rv := rv) (.inl hk))
    have HK := Lib.hid hk
    rw [HX.out]
    clear h hk hrv hF
    go_enter Try.func60, Try.ntmps60
    go_wp2_with fail
    refine (c_haveCodes _ _ _ _ _ HF.out).mono ?_
    rintro e w' ⟨rfl, hb⟩
    rw [HK.out]
    have HB := Lib.hid hb
    clear hb
    go_wp2_with fail
    go_ret2
    exact ⟨none, 0, [], rfl, nil_ownI _ _, rfl, HB.out⟩
  | true =>
    cases hk2 : okSpr s with
    | false =>
      have HX := Lib.hid (vCodes_no (z := z) (rv := rv) (.inr hk2))
      have HK := Lib.hid hk
      have HK2 := Lib.hid hk2
      rw [HX.out]
      clear h hk hk2 hrv hF
      go_enter Try.func60, Try.ntmps60
      go_wp2_with fail
      refine (c_haveCodes _ _ _ _ _ HF.out).mono ?_
      rintro e w' ⟨rfl, hb⟩
      rw [HK.out]
      have HB := Lib.hid hb
      clear hb
      go_wp2_with (go_at_call 69; refine (c_isSpread _ hs _).mono ?_; rintro e w' ⟨rfl, rfl⟩; rw [HK2.out])
      go_ret2
      exact ⟨none, 0, [], rfl, nil_ownI _ _, rfl, HB.out⟩
    | true =>
      have HX := Lib.hid (vCodes_yes (rv := rv) hk hk2)
      have HK := Lib.hid hk
      have HK2 := Lib.hid hk2
      have hfew := okFin_few hk
      rw [HX.out]
      obtain ⟨i0, hi, hz0, hz1, hz2⟩ := info_parts info_j64
      have JI := Lib.hid hi
      have HZ0 := Lib.hid hz0
      have HZ1 := Lib.hid hz1
      have HZ2 := Lib.hid hz2
      clear hi hz0 hz1 hz2
      by_cases h0 : s = 0
      · subst h0
        have ho : FloatKind.f32.format.order 0 0 = some .eq := order_refl zero_num
        clear h hk hk2 hrv hF HX
        go_enter Try.func60, Try.ntmps60
        go_wp2_with fail
        refine (c_haveCodes _ _ _ _ _ HF.out).mono ?_
        rintro e w0 ⟨rfl, hb⟩
        rw [HK.out]
        have HB0 := Lib.hid hb
        clear hb
        go_wp2_with (first | (go_at_call 69; refine (c_isSpread _ hs _).mono ?_; rintro e w' ⟨rfl, rfl⟩; rw [HK2.out]) | (at_make; refine wpList_make_full _ rfl _ _ 41 rfl w0.heap.size 2 i0 (.int .i64 0) 1 Try.underlying41 JI.out HZ0.out HZ1.out _ _ _ _ z.length rfl rfl rfl rfl ?c1 ?c2 ?c3 ?_))
        case c1 => rw [HZ2.out]; omega
        case c2 => unfold maxLen; omega
        case c3 => exact Nat.le_refl _
        intro w1 hown hgrow
        have hb1 : Below w0.heap.size w0 w1 := (Below.refl _ _).grown hgrow (Nat.le_refl _) (fun k h => by cases h)
        rw [toList_madeCells_one] at hown
        have HO := Lib.hid (funJ_end (f := codeF rv 0) (n := z.length) (w := w0) (gd := w0.heap.size) (fun i _ => by show (Lit.int .i64 (if 0 = 0 then 0 else _)).wf = true; rw [if_pos rfl]; rfl) (by
          have e : partJ ((List.range z.length).map (codeF rv 0)) z.length = List.replicate z.length (Value.int .i64 0) := by
            unfold partJ
            simp
            exact List.eq_replicate_iff.2 ⟨by simp, fun b hb => by obtain ⟨x, _, rfl⟩ := List.mem_map.1 hb; rfl⟩
          rw [e]
          exact hown))
        have HB := Lib.hid (HB0.out.trans (hb1.mono HB0.out.size))
        have HL := Lib.hid (show ((List.range z.length).map (codeF rv 0)).length = z.length by simp)
        clear hown hb1 hgrow
        go_wp2_with fail
        go_ret2
        exact ⟨some ⟨w0.heap.size, 0, none⟩, z.length, _, by rw [HL.out]; rfl, HO.out.base HB0.out.size, rfl, HB.out⟩
      · have hp : 0 < s := Nat.pos_of_ne_zero h0
        obtain ⟨hsf, hsl⟩ := spr_fin hk2
        have ho : (FloatKind.f32.format.order s 0 == some .eq) = false := by
          rw [ord_gt hs (by decide) (fin_num hsf) zero_num (by rw [k32_nn (show s < 2147483648 by omega), k32_nn (show 0 < 2147483648 by decide)]; omega)]; rfl
        have HRV := Lib.hid (hrv hk hk2 hp)
        have HFN := Lib.hid (hF hk hk2 hp)
        have HQ := Lib.hid (fun k (hk' : k < z.length) => vq_at (okFin_at hk hk') hp hsl)
        have HWS := wide_at hsf
        have HCF := Lib.hid (show ∀ k, codeF rv s k = lim (rv k) from fun k => if_neg h0)
        obtain ⟨S, hS⟩ : ∃ x, cwide s = x := ⟨_, rfl⟩
        rw [hS] at HQ HWS
        obtain ⟨hw1, hw2⟩ := HWS
        clear h hk hk2 hrv hF HX hS hsf hsl hp h0
        go_enter Try.func60, Try.ntmps60
        go_wp2_with fail
        refine (c_haveCodes _ _ _ _ _ HF.out).mono ?_
        rintro e w0 ⟨rfl, hb⟩
        rw [HK.out]
        have HB0 := Lib.hid hb
        clear hb
        go_wp2_with (first | (go_at_call 69; refine (c_isSpread _ hs _).mono ?_; rintro e w' ⟨rfl, rfl⟩; rw [HK2.out]) | (at_make; refine wpList_make_full _ rfl _ _ 41 rfl w0.heap.size 2 i0 (.int .i64 0) 1 Try.underlying41 JI.out HZ0.out HZ1.out _ _ _ _ z.length rfl rfl rfl rfl ?c1 ?c2 ?c3 ?_))
        case c1 => rw [HZ2.out]; omega
        case c2 => unfold maxLen; omega
        case c3 => exact Nat.le_refl _
        intro w1 hown hgrow
        have hb1 : Below w0.heap.size w0 w1 := (Below.refl _ _).grown hgrow (Nat.le_refl _) (fun k h => by cases h)
        rw [toList_madeCells_one] at hown
        have HO := Lib.hid hown
        have HB := Lib.hid hb1
        have HF1 := Lib.hid (HF.out.kept HB0.out)
        clear hown hb1 hgrow
        go_wp2_with fail
        go_loopw [28] (fun i wr => FunRelJ (codeF rv s) z.length w0.heap.size w0 i wr) (fun i _ => z.length - (intOf i).toNat)
        case atStart => exact ⟨0, Nat.zero_le _, rfl, by simpa [partJ] using HO.out, HB.out⟩
        case round =>
          obtain ⟨k, hk, rfl, ho', hbl⟩ := hrel
          have HO' := Lib.hid ho'
          have HL := Lib.hid hbl
          have hk0 : (0 : Int) ≤ (k : Int) := by omega
          clear ho' hbl
          by_cases hlt : k < z.length
          · have hlt' : (k : Int) < (z.length : Int) := by omega
            rcases HF1.out.2.2.2.2 with h' | ⟨ab, off, rfl, hab, hcell⟩
            · omega
            have hx : wr.cell? ⟨ab, off + k, none⟩ = some (.float .f32 (z.getD k 0)) := (HL.out.cell (p := ⟨ab, off + k, none⟩) hab).trans (hcell k hlt)
            obtain ⟨q1, q2, q3, q4⟩ := HQ.out k hlt
            obtain ⟨x1, x2⟩ := wide_at (okFin_at HK.out hlt)
            obtain ⟨v1, v2⟩ := HRV.out k hlt
            have HFK := Lib.hid (HFN.out k)
            obtain ⟨u, m1, m2, m3, m4⟩ := clamp_ways v1 v2
            have hcv := fun w => run_f2i (clamp_val v1) w
            have HST := Lib.hid (fun (w2 : World) (hb : Below wr.heap.size wr w2) => funJ_step (f := codeF rv s) (Nat.le_refl _) hlt HO'.out HL.out hb)
            have HCK := Lib.hid (HCF.out k)
            obtain ⟨X, hX⟩ : ∃ x, cwide (z.getD k 0) = x := ⟨_, rfl⟩
            obtain ⟨q, hq⟩ : ∃ x, vq (z.getD k 0) s = x := ⟨_, rfl⟩
            rw [hX] at q2
            simp only [hX, hq] at q1 x1
            rw [hq] at HFK
            obtain ⟨x, hz⟩ : ∃ y, z.getD k 0 = y := ⟨_, rfl⟩
            rw [hz] at hx x2
            simp only [hz] at x1
            obtain ⟨v, hv⟩ : ∃ y, rv k = y := ⟨_, rfl⟩
            rw [hv] at HCK m2 HFK
            simp only [hv] at m1 m3 hcv
            obtain ⟨L, hL⟩ : ∃ y, lim v = y := ⟨_, rfl⟩
            rw [hL] at HCK
            simp only [hL] at hcv
            obtain ⟨C, hC⟩ : ∃ y, clampC v = y := ⟨_, rfl⟩
            simp only [hC] at m3 hcv
            clear hcell hX hq hz q3 q4 v1 v2 hv hL hC
            go_wp2_with fail
            refine (HFK.out _ hlt (HB0.out.trans (HL.out.mono HB0.out.size))).mono ?_
            rintro e w2 ⟨rfl, n2, rfl⟩
            obtain ⟨hfz, v0, hv0⟩ := funJ_cell hlt HO'.out (below_drewN (Below.refl wr.heap.size wr) n2)
            go_wp2_with fail
            go_roundw
            case rel =>
              have := HST.out _ (below_drewN (Below.refl wr.heap.size wr) n2)
              rw [HCK.out] at this
              exact this
            case measure => simp [intOf]; omega
          · obtain rfl : k = z.length := by omega
            have HE := Lib.hid (funJ_end (f := codeF rv s) (n := z.length) (w := w0) (gd := w0.heap.size) (fun i hi => code_wf (HRV.out i hi).1) HO'.out)
            have HLL := Lib.hid (show ((List.range z.length).map (codeF rv s)).length = z.length by simp)
            go_wp2_with fail
            go_ret2
            exact ⟨some ⟨w0.heap.size, 0, none⟩, z.length, _, by rw [HLL.out]; rfl, HE.out.base HB0.out.size, rfl, HB0.out.trans (HL.out.mono HB0.out.size)⟩
theorem t_iCodesOfC (z : List Nat) (s : Nat) (a0 : Option Addr) (cc : Nat) (w : World) (h : IsFloats .f32 w a0 z.length cc z) (hs : s < 4294967296) : Calls Try.prog 27 #[.slice a0 z.length cc, .float .f32 s] w (RetI (vCodesOf z s).1 (vCodesOf z s).2 w) := by
  have HC := Lib.hid (c_codesByC cc 61 #[] (rvE z s) z s a0 w h hs (enters_of Try.func61 (by kernel_rfl) (by kernel_rfl))
    (fun hk hk2 hp k hlt => ⟨rte_lt _ _, rte_num (vq_at (okFin_at hk hlt) hp (spr_fin hk2).2).2.2.1⟩)
    (fun hk hk2 hp k wr hlt _ => x_nearestWhole k _ (vq_at (okFin_at hk hlt) hp (spr_fin hk2).2).2.2.1 wr))
  show Calls Try.prog 27 _ w (RetI (vCodes z s (rvE z s)).1 (vCodes z s (rvE z s)).2 w)
  obtain ⟨b, l, hbl⟩ : ∃ b l, vCodes z s (rvE z s) = (b, l) := ⟨_, _, rfl⟩
  rw [hbl] at HC ⊢
  clear h hbl
  go_enter Try.func27, Try.ntmps27
  go_wp2_with fail
  refine HC.out.mono ?_
  rintro e w' ⟨a, c, ys, rfl, ho, rfl, hb⟩
  have HO := Lib.hid ho
  have HB := Lib.hid hb
  clear ho hb
  go_wp2_with fail
  go_ret2
  exact ⟨a, c, ys, rfl, HO.out, rfl, HB.out⟩
set_option maxRecDepth 20000 in
set_option maxHeartbeats 4000000 in
theorem t_iDotOfCodesC (a b : List Int) (f s : Nat) (a0 a1 : Option Addr) (ca cb : Nat) (w : World) (h : IsRow .i64 w a0 a.length ca a) (h1 : IsRow .i64 w a1 b.length cb b) (hf0 : f < 4294967296) (hs0 : s < 4294967296) : Calls Try.prog 39 #[.slice a0 a.length ca, .slice a1 b.length cb, .float .f32 f, .float .f32 s] w (RetFb (vDotOfCodes a b f s).1 (vDotOfCodes a b f s).2 w) := by
  have HA0 := Lib.hid h
  have HB0 := Lib.hid h1
  have hmax : a.length ≤ 9223372036854775807 := by have := h.2.1; have := h.1; unfold maxLen at *; omega
  have hmax1 : b.length ≤ 9223372036854775807 := by have := h1.2.1; have := h1.1; unfold maxLen at *; omega
  clear h h1
  by_cases hl : a.length = b.length
  case neg =>
    have HX := Lib.hid (vDot_no (a := a) (b := b) (f := f) (s := s) (.inr (.inr (.inl hl))))
    have hne : ¬ (a.length : Int) = (b.length : Int) := by omega
    rw [HX.out]
    clear HX hl
    go_enter Try.func39, Try.ntmps39
    have B_0 := Lib.hid (Below.refl w.heap.size w)
    go_wp2_with fail
    go_ret2
    exact ⟨0, by decide +kernel, rfl, B_0.out⟩
  obtain ⟨n, hn⟩ : ∃ n, b.length = n := ⟨_, rfl⟩
  rw [hn] at hl
  have HN := Lib.hid hn
  have HLA := Lib.hid hl
  rw [hl] at hmax HA0
  rw [hn] at hmax1 HB0
  rw [hl, hn]
  clear hl hn
  cases ha : okCod a with
  | false =>
    have HX := Lib.hid (vDot_no (a := a) (b := b) (f := f) (s := s) (.inl ha))
    have HA := Lib.hid ha
    rw [HX.out]
    clear HX ha
    go_enter Try.func39, Try.ntmps39
    have B_0 := Lib.hid (Below.refl w.heap.size w)
    go_wp2_with fail
    refine (c_areCodes _ _ _ _ _ (isRow_kept HA0.out B_0.out)).mono ?_
    rintro e w1 ⟨rfl, hb⟩
    rw [HA.out]
    have B_1 := Lib.hid (Below.next B_0.out hb)
    clear hb
    go_wp2_with (fail)
    go_ret2
    exact ⟨0, by decide +kernel, rfl, B_1.out⟩
  | true =>
    have HA := Lib.hid ha
    cases hb : okCod b with
    | false =>
      have HX := Lib.hid (vDot_no (a := a) (b := b) (f := f) (s := s) (.inr (.inl hb)))
      have HB := Lib.hid hb
      rw [HX.out]
      clear HX hb
      go_enter Try.func39, Try.ntmps39
      have B_0 := Lib.hid (Below.refl w.heap.size w)
      go_wp2_with fail
      refine (c_areCodes _ _ _ _ _ (isRow_kept HA0.out B_0.out)).mono ?_
      rintro e w1 ⟨rfl, hb⟩
      rw [HA.out]
      have B_1 := Lib.hid (Below.next B_0.out hb)
      clear hb
      go_wp2_with fail
      refine (c_areCodes _ _ _ _ _ (isRow_kept HB0.out B_1.out)).mono ?_
      rintro e w2 ⟨rfl, hb⟩
      rw [HB.out]
      have B_2 := Lib.hid (Below.next B_1.out hb)
      clear hb
      go_wp2_with (fail)
      go_ret2
      exact ⟨0, by decide +kernel, rfl, B_2.out⟩
    | true =>
      have HB := Lib.hid hb
      cases hf : okSpr f with
      | false =>
        have HX := Lib.hid (vDot_no (a := a) (b := b) (f := f) (s := s) (.inr (.inr (.inr (.inl hf)))))
        have HFF := Lib.hid hf
        rw [HX.out]
        clear HX hf
        go_enter Try.func39, Try.ntmps39
        have B_0 := Lib.hid (Below.refl w.heap.size w)
        go_wp2_with fail
        refine (c_areCodes _ _ _ _ _ (isRow_kept HA0.out B_0.out)).mono ?_
        rintro e w1 ⟨rfl, hb⟩
        rw [HA.out]
        have B_1 := Lib.hid (Below.next B_0.out hb)
        clear hb
        go_wp2_with fail
        refine (c_areCodes _ _ _ _ _ (isRow_kept HB0.out B_1.out)).mono ?_
        rintro e w2 ⟨rfl, hb⟩
        rw [HB.out]
        have B_2 := Lib.hid (Below.next B_1.out hb)
        clear hb
        go_wp2_with (go_at_call 69; refine (c_isSpread _ (by assumption) _).mono ?_; rintro e w' ⟨rfl, rfl⟩; first | rw [HFF.out])
        go_ret2
        exact ⟨0, by decide +kernel, rfl, B_2.out⟩
      | true =>
        have HFF := Lib.hid hf
        cases hs : okSpr s with
        | false =>
          have HX := Lib.hid (vDot_no (a := a) (b := b) (f := f) (s := s) (.inr (.inr (.inr (.inr hs)))))
          have HS := Lib.hid hs
          rw [HX.out]
          clear HX hs
          go_enter Try.func39, Try.ntmps39
          have B_0 := Lib.hid (Below.refl w.heap.size w)
          go_wp2_with fail
          refine (c_areCodes _ _ _ _ _ (isRow_kept HA0.out B_0.out)).mono ?_
          rintro e w1 ⟨rfl, hb⟩
          rw [HA.out]
          have B_1 := Lib.hid (Below.next B_0.out hb)
          clear hb
          go_wp2_with fail
          refine (c_areCodes _ _ _ _ _ (isRow_kept HB0.out B_1.out)).mono ?_
          rintro e w2 ⟨rfl, hb⟩
          rw [HB.out]
          have B_2 := Lib.hid (Below.next B_1.out hb)
          clear hb
          go_wp2_with (go_at_call 69; refine (c_isSpread _ (by assumption) _).mono ?_; rintro e w' ⟨rfl, rfl⟩; first | rw [HFF.out] | rw [HS.out])
          go_ret2
          exact ⟨0, by decide +kernel, rfl, B_2.out⟩
        | true =>
          have HS := Lib.hid hs
          have HX := Lib.hid (vDot_yes ha hb (HLA.out.trans HN.out.symm) hf hs)
          have HSM := Lib.hid (dot_small ha hb (HLA.out.trans HN.out.symm))
          have hfew := okCod_few ha
          rw [HX.out]
          rw [HLA.out] at HSM hfew ⊢
          clear ha hb hf hs HX
          go_enter Try.func39, Try.ntmps39
          have B_0 := Lib.hid (Below.refl w.heap.size w)
          go_wp2_with fail
          refine (c_areCodes _ _ _ _ _ (isRow_kept HA0.out B_0.out)).mono ?_
          rintro e w1 ⟨rfl, hb⟩
          rw [HA.out]
          have B_1 := Lib.hid (Below.next B_0.out hb)
          clear hb
          go_wp2_with fail
          refine (c_areCodes _ _ _ _ _ (isRow_kept HB0.out B_1.out)).mono ?_
          rintro e w2 ⟨rfl, hb⟩
          rw [HB.out]
          have B_2 := Lib.hid (Below.next B_1.out hb)
          clear hb
          go_wp2_with (go_at_call 69; refine (c_isSpread _ (by assumption) _).mono ?_; rintro e w' ⟨rfl, rfl⟩; first | rw [HFF.out] | rw [HS.out])
          have HW := Lib.hid B_2.out
          generalize w2 = w1 at *
          go_loopw [10, 40] (fun s' i wr => DotRel a b n w1 s' i wr) (fun _ i _ => n - (intOf i).toNat)
          case atStart => exact ⟨0, 0, Nat.zero_le _, rfl, rfl, rfl⟩
          case round =>
            obtain ⟨k, m, hk, rfl, rfl, rfl⟩ := hrel
            have hk0 : (0 : Int) ≤ (k : Int) := by omega
            by_cases hlt : k < n
            · have hlt' : (k : Int) < (n : Int) := by omega
              rcases HA0.out.2.2.2.2 with h' | ⟨ab, off, rfl, hab, hcell⟩
              · omega
              rcases HB0.out.2.2.2.2 with h' | ⟨ac, offc, rfl, hac, hcellc⟩
              · omega
              have hx : (w1.drewN m).cell? ⟨ab, off + k, none⟩ = some (.int .i64 (a.getD k 0)) := ((below_drewN HW.out m).cell (p := ⟨ab, off + k, none⟩) hab).trans (hcell k hlt)
              have hxc : (w1.drewN m).cell? ⟨ac, offc + k, none⟩ = some (.int .i64 (b.getD k 0)) := ((below_drewN HW.out m).cell (p := ⟨ac, offc + k, none⟩) hac).trans (hcellc k hlt)
              have hp := prod_small (okCod_at HA.out (show k < a.length by rw [HLA.out]; exact hlt)) (okCod_at HB.out (show k < b.length by rw [HN.out]; exact hlt))
              have hs1 := HSM.out k hk
              have hs2 := HSM.out (k + 1) hlt
              have HD := Lib.hid (show dotI a b (k + 1) = dotI a b k + a.getD k 0 * b.getD k 0 from rfl)
              rw [HD.out] at hs2
              obtain ⟨x, hx'⟩ : ∃ x, a.getD k 0 = x := ⟨_, rfl⟩
              obtain ⟨y, hy'⟩ : ∃ x, b.getD k 0 = x := ⟨_, rfl⟩
              obtain ⟨d, hd'⟩ : ∃ x, dotI a b k = x := ⟨_, rfl⟩
              rw [hx', hy'] at hp
              rw [hx', hy', hd'] at HD hs2
              rw [hd'] at hs1
              rw [hx'] at hx
              rw [hy'] at hxc
              rw [hd']
              have k1 : IntKind.i64.wrap (x * y) = x * y := IntWalk.i64_in _ (by generalize x * y = p at *; omega)
              have k2 : IntKind.i64.wrap (d + x * y) = d + x * y := IntWalk.i64_in _ (by generalize x * y = p at *; omega)
              clear hcell hcellc hx' hy' hd' hp hs1 hs2
              obtain ⟨p, hp'⟩ : ∃ p, x * y = p := ⟨_, rfl⟩
              rw [hp'] at k1 k2 HD
              go_wp2_with fail
              skip
              go_roundw
              case rel => exact ⟨k + 1, _, hlt, by go_num, by rw [HD.out], rfl⟩
              case measure => simp [intOf]; omega
            · obtain rfl : k = n := by omega
              go_wp2_with (go_at_call 72; refine (c_productOfTwo _ _ _).mono ?_; rintro e w' ⟨rfl, rfl⟩)
              go_ret2
              exact ⟨_, by rw [canon_fval, canon_fval, foi_num], rfl, below_drewN HW.out _⟩
end Go.Proofs.Ytgffcmmdmenefaa
