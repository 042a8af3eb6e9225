/-
  Codes of numbers by the nearest integers: the same for the program and for its model. Conditions: the numbers can be read.
-/
import Derived.Test.YtgffcmmdmenefaaCod
import Derived.Deep.RegionLaw
namespace Go.Proofs.Ytgffcmmdmenefaa
open Go.RowKit Go.Deep Go.WideShapes Go.ChangeShapes
set_option linter.unusedVariables false
attribute [local go_sem] World.drewN_zero

theorem rte_lt (way : Ieee.Toward) (x : Nat) : rteV way x < 18446744073709551616 := Ieee.double.write_lt _
theorem call_rte {x : Nat} (h : isNan .f64 x = false) (w : World) : (callFunc 59 #[.float .f64 x]).run Try.prog w = .ok (.value (.float .f64 (rteV .even x))) w := by
  rw [run_callFunc_extern Try.func59 (by kernel_rfl) (by kernel_rfl) (by kernel_rfl) (e := Extern.MathFloor.toIntegral "math.RoundToEven" .even) (by kernel_rfl), run_integral h]
  rfl
def rvE (z : List Nat) (s k : Nat) : Nat := rteV .even (vq (z.getD k 0) s)
def vCodesOf (z : List Nat) (s : Nat) : Bool × List Int := vCodes z s (rvE z s)
theorem vCodesOf_len (z : List Nat) (s : Nat) : (vCodesOf z s).2.length ≤ 1048576 := by
  unfold vCodesOf vCodes
  split
  · rename_i h
    simp only [Bool.and_eq_true] at h
    have := okFin_few h.1
    simp; omega
  · simp
theorem x_nearestWhole (k : Nat) (q : Nat) (h : isNan .f64 q = false) (w : World) : Calls Try.prog 61 (#[] ++ #[.int .i64 k, .float .f64 q]) w fun e w' => e = .returned (.float .f64 (rteV .even q)) ∧ Drawn w w' := by
  show Calls Try.prog 61 #[.int .i64 k, .float .f64 q] w _
  have hr := fun w => call_rte h w
  clear h
  go_enter Try.func61, Try.ntmps61
  go_wp2
  go_ret
  exact ⟨rfl, Drawn.refl _⟩
theorem t_iCodesOf (z : List Nat) (s : Nat) (a0 : Option Addr) (w : World) (h : IsFloats .f32 w a0 z.length z.length z) (hs : s < 4294967296) : Calls Try.prog 27 #[.slice a0 z.length z.length, .float .f32 s] w (RetI (vCodesOf z s).1 (vCodesOf z s).2 w) := by
  have HC := Lib.hid (c_codesBy 61 #[] (rvE z s) z s a0 w h hs (enters_of Try.func61 (by kernel_rfl) (by kernel_rfl))
    (fun hk hk2 hp k hlt => ⟨rte_lt _ _, rte_num (vq_at (okFin_at hk hlt) hp (spr_fin hk2).2).2.2.1⟩)
    (fun hk hk2 hp k wr hlt _ => x_nearestWhole k _ (vq_at (okFin_at hk hlt) hp (spr_fin hk2).2).2.2.1 wr))
  show Calls Try.prog 27 _ w (RetI (vCodes z s (rvE z s)).1 (vCodes z s (rvE z s)).2 w)
  obtain ⟨b, l, hbl⟩ : ∃ b l, vCodes z s (rvE z s) = (b, l) := ⟨_, _, rfl⟩
  rw [hbl] at HC ⊢
  clear h hbl
  go_enter Try.func27, Try.ntmps27
  go_wp2_with fail
  refine HC.out.mono ?_
  rintro e w' ⟨a, c, ys, rfl, ho, rfl, hb⟩
  have HO := Lib.hid ho
  have HB := Lib.hid hb
  clear ho hb
  go_wp2_with fail
  go_ret2
  exact ⟨a, c, ys, rfl, HO.out, rfl, HB.out⟩
set_option maxRecDepth 20000 in
set_option maxHeartbeats 2000000 in
theorem t_sCodesOf (z : List Nat) (s : Nat) (a0 : Option Addr) (w : World) (h : IsFloats .f32 w a0 z.length z.length z) (hs : s < 4294967296) : Calls Try.prog 26 #[.slice a0 z.length z.length, .float .f32 s] w (RetI (vCodesOf z s).1 (vCodesOf z s).2 w) := by
  have HF := Lib.hid h
  have hmax : z.length ≤ 9223372036854775807 := by have := h.2.1; unfold maxLen at this; exact this
  show Calls Try.prog 26 _ w (RetI (vCodes z s (rvE z s)).1 (vCodes z s (rvE z s)).2 w)
  cases hk : okFin z with
  | false =>
    have HX := Lib.hid (vCodes_no (s := s) (rv := rvE z s) (.inl hk))
    have HK := Lib.hid hk
    rw [HX.out]
    clear h hk
    go_enter Try.func26, Try.ntmps26
    go_wp2_with (go_at_call 53; refine (c_l06List _ _ _ _ _ HF.out).mono ?_; rintro e w' ⟨rfl, m, rfl⟩; rw [HK.out])
    go_ret2
    exact ⟨none, 0, [], rfl, nil_ownI _ _, rfl, below_drewN (Below.refl _ _) _⟩
  | true =>
    cases hk2 : okSpr s with
    | false =>
      have HX := Lib.hid (vCodes_no (z := z) (rv := rvE z s) (.inr hk2))
      have HK := Lib.hid hk
      have HK2 := Lib.hid hk2
      rw [HX.out]
      clear h hk hk2
      go_enter Try.func26, Try.ntmps26
      go_wp2_with (first | (go_at_call 53; refine (c_l06List _ _ _ _ _ HF.out).mono ?_; rintro e w' ⟨rfl, m, rfl⟩; rw [HK.out]) | (go_at_call 57; refine (c_l06Spread _ hs _).mono ?_; rintro e w' ⟨rfl, m2, rfl⟩; rw [HK2.out]))
      go_ret2
      exact ⟨none, 0, [], rfl, nil_ownI _ _, rfl, below_drewN (Below.refl _ _) _⟩
    | true =>
      have HX := Lib.hid (vCodes_yes (rv := rvE z s) hk hk2)
      have HK := Lib.hid hk
      have HK2 := Lib.hid hk2
      have hfew := okFin_few hk
      rw [HX.out]
      obtain ⟨i0, hi, hz0, hz1, hz2⟩ := info_parts info_j64
      have JI := Lib.hid hi
      have HZ0 := Lib.hid hz0
      have HZ1 := Lib.hid hz1
      have HZ2 := Lib.hid hz2
      obtain ⟨hsf, hsl⟩ := spr_fin hk2
      obtain ⟨n, hn⟩ : ∃ n, z.length = n := ⟨_, rfl⟩
      have HN := Lib.hid hn
      rw [hn] at hmax hfew HF ⊢
      clear hi hz0 hz1 hz2 h hk hk2 HX hn
      by_cases h0 : s = 0
      · subst h0
        have ho : FloatKind.f32.format.order 0 0 = some .eq := order_refl zero_num
        have HC0 := Lib.hid (show ∀ k, (0 : Int) = codeF (rvE z 0) 0 k from fun k => (if_pos rfl).symm)
        go_enter Try.func26, Try.ntmps26
        go_wp2_with (first | (go_at_call 53; refine (c_l06List _ _ _ _ _ HF.out).mono ?_; rintro e w' ⟨rfl, m, rfl⟩; rw [HK.out]) | (go_at_call 57; refine (c_l06Spread _ hs _).mono ?_; rintro e w' ⟨rfl, m2, rfl⟩; rw [HK2.out]))
        have HW := Lib.hid (below_drewN (Below.refl w.heap.size w) (m + m2))
        have HW1 := Lib.hid (show (w.drewN (m + m2)).heap.size = w.heap.size from rfl)
        generalize w.drewN (m + m2) = w1 at *
        have HF1 := Lib.hid (HF.out.kept HW.out)
        go_loopw [6, 7] (fun s' i wr => GrowRelJ (codeF (rvE z 0) 0) n w.heap.size w s' i wr) (fun _ i _ => n - (intOf i).toNat)
        case atStart =>
          have hg := growJ_first (f := codeF (rvE z 0) 0) (n := n) (by rw [HW1.out]; exact Nat.le_refl _) rfl HW.out (by rw [HW1.out]; exact Nat.le_refl _)
          rw [HW1.out] at hg
          exact hg
        case round =>
          obtain ⟨k, b, cp, ys, hk, rfl, rfl, hy, ho', he, hl⟩ := hrel
          have HY := Lib.hid hy
          have HO := Lib.hid ho'
          have HE := Lib.hid he
          have HL := Lib.hid hl
          have hk0 : (0 : Int) ≤ (k : Int) := by omega
          clear hy ho' he hl
          by_cases hlt : k < n
          · have hlt' : (k : Int) < (n : Int) := by omega
            rcases HF.out.2.2.2.2 with h' | ⟨ab, off, rfl, hab, hcell⟩
            · omega
            have hx : wr.cell? ⟨ab, off + k, none⟩ = some (.float .f32 (z.getD k 0)) := (HL.out.cell (p := ⟨ab, off + k, none⟩) hab).trans (hcell k hlt)
            have A1 := Lib.hid (show ys.length + 1 ≤ maxLen by have := HY.out; unfold maxLen; omega)
            have A2 := Lib.hid (show (ys.length + 1) * 8 ≤ 140737488355328 by have := HY.out; omega)
            have A3 := Lib.hid HL.out.size
            clear hcell
            go_wp2_with (at_builtin; refine wpList_append_any _ rfl (.tmp 36) (.tmp 38) 41 rfl w.heap.size 2 i0 (.int .i64 0) 1 8 Try.underlying41 JI.out HZ0.out HZ1.out HZ2.out rfl Nat.one_pos (.slice b ys.length cp) ys.length (ys.map toV) rfl (growJ_own HO.out) (wr.heap.size + 1) (some ⟨wr.heap.size, 0, none⟩) 1 1 [.int .i64 0] rfl growJ_reads (one_i64 _) A1.out A2.out (growJ_base A3.out) ?_; intro v' w' hown hgr hat; obtain ⟨a', c', rfl⟩ := ownsRow_slice hown; have HMD := Lib.hid (growJ_next (n := n) hlt HO.out (Nat.le_refl _) HL.out HE.out HY.out rfl (HC0.out k) hown hgr); clear hown hgr hat)
            go_roundw
            case rel => exact HMD.out
            case measure => simp [intOf]; omega
          · obtain rfl : k = n := by omega
            have HLL := Lib.hid (show ((List.range k).map (codeF (rvE z 0) 0)).length = k by simp)
            go_wp2_with fail
            go_ret2
            exact ⟨b, cp, ys, rfl, HO.out, HE.out, HL.out⟩
      · have hp : 0 < s := Nat.pos_of_ne_zero h0
        have ho : (FloatKind.f32.format.order s 0 == some .gt) = true := by
          rw [ord_gt hs (by decide) (fin_num hsf) zero_num (by rw [k32_nn (show s < 2147483648 by omega), k32_nn (show 0 < 2147483648 by decide)]; omega)]; rfl
        have HQ := Lib.hid (fun k (hk' : k < n) => vq_at (okFin_at HK.out (show k < z.length by rw [HN.out]; exact hk')) hp hsl)
        have HWS := wide_at hsf
        have HCF := Lib.hid (show ∀ k, codeF (rvE z s) s k = lim (rteV .even (vq (z.getD k 0) s)) from fun k => if_neg h0)
        obtain ⟨S, hS⟩ : ∃ x, cwide s = x := ⟨_, rfl⟩
        rw [hS] at HQ HWS
        obtain ⟨hw1, hw2⟩ := HWS
        clear hS hsf hsl hp h0
        go_enter Try.func26, Try.ntmps26
        go_wp2_with (first | (go_at_call 53; refine (c_l06List _ _ _ _ _ HF.out).mono ?_; rintro e w' ⟨rfl, m, rfl⟩; rw [HK.out]) | (go_at_call 57; refine (c_l06Spread _ hs _).mono ?_; rintro e w' ⟨rfl, m2, rfl⟩; rw [HK2.out]))
        have HW := Lib.hid (below_drewN (Below.refl w.heap.size w) (m + m2))
        have HW1 := Lib.hid (show (w.drewN (m + m2)).heap.size = w.heap.size from rfl)
        generalize w.drewN (m + m2) = w1 at *
        have HF1 := Lib.hid (HF.out.kept HW.out)
        go_loopw [6, 7] (fun s' i wr => GrowRelJ (codeF (rvE z s) s) n w.heap.size w s' i wr) (fun _ i _ => n - (intOf i).toNat)
        case atStart =>
          have hg := growJ_first (f := codeF (rvE z s) s) (n := n) (by rw [HW1.out]; exact Nat.le_refl _) rfl HW.out (by rw [HW1.out]; exact Nat.le_refl _)
          rw [HW1.out] at hg
          exact hg
        case round =>
          obtain ⟨k, b, cp, ys, hk, rfl, rfl, hy, ho', he, hl⟩ := hrel
          have HY := Lib.hid hy
          have HO := Lib.hid ho'
          have HE := Lib.hid he
          have HL := Lib.hid hl
          have hk0 : (0 : Int) ≤ (k : Int) := by omega
          clear hy ho' he hl
          by_cases hlt : k < n
          · have hlt' : (k : Int) < (n : Int) := by omega
            rcases HF.out.2.2.2.2 with h' | ⟨ab, off, rfl, hab, hcell⟩
            · omega
            have hx : wr.cell? ⟨ab, off + k, none⟩ = some (.float .f32 (z.getD k 0)) := (HL.out.cell (p := ⟨ab, off + k, none⟩) hab).trans (hcell k hlt)
            have A1 := Lib.hid (show ys.length + 1 ≤ maxLen by have := HY.out; unfold maxLen; omega)
            have A2 := Lib.hid (show (ys.length + 1) * 8 ≤ 140737488355328 by have := HY.out; omega)
            have A3 := Lib.hid HL.out.size
            obtain ⟨q1, q2, q3, q4⟩ := HQ.out k hlt
            obtain ⟨x1, x2⟩ := wide_at (okFin_at HK.out (show k < z.length by rw [HN.out]; exact hlt))
            have hr := fun w => call_rte q3 w
            have HLM := Lib.hid (fun w => c_l06Limit _ (rte_lt .even (vq (z.getD k 0) s)) (rte_num q3) w)
            have HWF := Lib.hid (wf_128 (lim_in (rteV .even (vq (z.getD k 0) s)) (rte_lt _ _)))
            have HCK := Lib.hid (HCF.out k)
            obtain ⟨X, hX⟩ : ∃ x, cwide (z.getD k 0) = x := ⟨_, rfl⟩
            obtain ⟨q, hq⟩ : ∃ x, vq (z.getD k 0) s = x := ⟨_, rfl⟩
            rw [hX] at q2
            simp only [hX, hq] at q1 x1 hr HLM
            rw [hq] at HCK HWF
            obtain ⟨x, hz⟩ : ∃ y, z.getD k 0 = y := ⟨_, rfl⟩
            rw [hz] at hx x2
            simp only [hz] at x1
            obtain ⟨v, hv⟩ : ∃ y, rteV .even q = y := ⟨_, rfl⟩
            rw [hv] at HCK HWF
            simp only [hv] at hr HLM
            obtain ⟨L, hL⟩ : ∃ y, lim v = y := ⟨_, rfl⟩
            rw [hL] at HCK HWF
            simp only [hL] at HLM
            clear hcell hX hq hz q3 q4 hv hL
            go_wp2_with (first | (go_at_call 58; refine (HLM.out _).mono ?_; rintro e w' ⟨rfl, rfl⟩) | (at_builtin; refine wpList_append_any _ rfl (.tmp 36) (.tmp 38) 41 rfl w.heap.size 2 i0 (.int .i64 0) 1 8 Try.underlying41 JI.out HZ0.out HZ1.out HZ2.out rfl Nat.one_pos (.slice b ys.length cp) ys.length (ys.map toV) rfl (growJ_own HO.out) (wr.heap.size + 1) (some ⟨wr.heap.size, 0, none⟩) 1 1 [.int .i64 L] rfl growJ_reads (one_i64 _) A1.out A2.out (growJ_base A3.out) ?_; intro v' w' hown hgr hat; obtain ⟨a', c', rfl⟩ := ownsRow_slice hown; have HMD := Lib.hid (growJ_next (n := n) hlt HO.out (Nat.le_refl _) HL.out HE.out HY.out HWF.out HCK.out.symm hown hgr); clear hown hgr hat))
            go_roundw
            case rel => exact HMD.out
            case measure => simp [intOf]; omega
          · obtain rfl : k = n := by omega
            have HLL := Lib.hid (show ((List.range k).map (codeF (rvE z s) s)).length = k by simp)
            go_wp2_with fail
            go_ret2
            exact ⟨b, cp, ys, rfl, HO.out, HE.out, HL.out⟩
end Go.Proofs.Ytgffcmmdmenefaa
