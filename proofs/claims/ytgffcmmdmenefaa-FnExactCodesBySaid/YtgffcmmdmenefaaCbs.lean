/-
  Codes of numbers that chances choose, in the model. Conditions: the numbers can be read.
-/
import Derived.Test.YtgffcmmdmenefaaCby
namespace Go.Proofs.Ytgffcmmdmenefaa
open Go.RowKit Go.Deep Go.WideShapes Go.ChangeShapes
set_option linter.unusedVariables false
attribute [local go_sem] World.drewN_zero

set_option maxRecDepth 20000 in
set_option maxHeartbeats 4000000 in
theorem t_sCodesBy (z : List Nat) (s : Nat) (c : List Int) (a0 a2 : Option Addr) (w : World) (h : IsFloats .f32 w a0 z.length z.length z) (h2 : IsRow .i64 w a2 c.length c.length c) (hs : s < 4294967296) : Calls Try.prog 32 #[.slice a0 z.length z.length, .float .f32 s, .slice a2 c.length c.length] w (RetI (vCodesBy z s c).1 (vCodesBy z s c).2 w) := by
  have HF := Lib.hid h
  have HR := Lib.hid h2
  have hmax : z.length ≤ 9223372036854775807 := by have := h.2.1; unfold maxLen at this; exact this
  have hmax2 : c.length ≤ 9223372036854775807 := by have := h2.2.1; unfold maxLen at this; exact this
  have hno : (okFin z = false ∨ okSpr s = false ∨ c.length ≠ z.length) → vCodesBy z s c = (false, []) := by
    intro hh
    unfold vCodesBy
    split
    · rename_i hc
      simp only [okChs, Bool.and_eq_true, decide_eq_true_eq] at hc
      exact vCodes_no (by rcases hh with h | h | h; exact .inl h; exact .inr h; exact absurd hc.1 h)
    · rfl
  cases hk : okFin z with
  | false =>
    have HX := Lib.hid (hno (.inl hk))
    have HK := Lib.hid hk
    rw [HX.out]
    clear h hk hno h2
    go_enter Try.func32, Try.ntmps32
    go_wp2_with (go_at_call 53; refine (c_l06List _ _ _ _ _ HF.out).mono ?_; rintro e w' ⟨rfl, m, rfl⟩; rw [HK.out])
    go_ret2
    exact ⟨none, 0, [], rfl, nil_ownI _ _, rfl, below_drewN (Below.refl _ _) _⟩
  | true =>
    cases hk2 : okSpr s with
    | false =>
      have HX := Lib.hid (hno (.inr (.inl hk2)))
      have HK := Lib.hid hk
      have HK2 := Lib.hid hk2
      rw [HX.out]
      clear h hk hk2 hno h2
      go_enter Try.func32, Try.ntmps32
      go_wp2_with (first | (go_at_call 53; refine (c_l06List _ _ _ _ _ HF.out).mono ?_; rintro e w' ⟨rfl, m, rfl⟩; rw [HK.out]) | (go_at_call 57; refine (c_l06Spread _ hs _).mono ?_; rintro e w' ⟨rfl, m2, rfl⟩; rw [HK2.out]))
      go_ret2
      exact ⟨none, 0, [], rfl, nil_ownI _ _, rfl, below_drewN (Below.refl _ _) _⟩
    | true =>
      by_cases hl : c.length = z.length
      case neg =>
        have HX := Lib.hid (hno (.inr (.inr hl)))
        have HK := Lib.hid hk
        have HK2 := Lib.hid hk2
        have hne : ¬ (c.length : Int) = (z.length : Int) := by omega
        rw [HX.out]
        clear h hk hk2 hno h2 hl
        go_enter Try.func32, Try.ntmps32
        go_wp2_with (first | (go_at_call 53; refine (c_l06List _ _ _ _ _ HF.out).mono ?_; rintro e w' ⟨rfl, m, rfl⟩; rw [HK.out]) | (go_at_call 57; refine (c_l06Spread _ hs _).mono ?_; rintro e w' ⟨rfl, m2, rfl⟩; rw [HK2.out]))
        go_ret2
        exact ⟨none, 0, [], rfl, nil_ownI _ _, rfl, below_drewN (Below.refl _ _) _⟩
      have HK := Lib.hid hk
      have HK2 := Lib.hid hk2
      have hfew := okFin_few hk
      obtain ⟨i0, hi, hz0, hz1, hz2⟩ := info_parts info_j64
      have JI := Lib.hid hi
      have HZ0 := Lib.hid hz0
      have HZ1 := Lib.hid hz1
      have HZ2 := Lib.hid hz2
      obtain ⟨hsf, hsl⟩ := spr_fin hk2
      obtain ⟨n, hn⟩ : ∃ n, z.length = n := ⟨_, rfl⟩
      have HN := Lib.hid hn
      rw [hn] at hmax hfew HF hl ⊢
      have HNC := Lib.hid hl
      rw [hl] at hmax2 HR ⊢
      clear hi hz0 hz1 hz2 h hk hk2 hn hno h2 hl
      by_cases h0 : s = 0
      · subst h0
        have ho : FloatKind.f32.format.order 0 0 = some .eq := order_refl zero_num
        have HC0 := Lib.hid (show ∀ k, (0 : Int) = codeF (rvB z 0 c) 0 k from fun k => (if_pos rfl).symm)
        go_enter Try.func32, Try.ntmps32
        go_wp2_with (first | (go_at_call 53; refine (c_l06List _ _ _ _ _ HF.out).mono ?_; rintro e w' ⟨rfl, m, rfl⟩; rw [HK.out]) | (go_at_call 57; refine (c_l06Spread _ hs _).mono ?_; rintro e w' ⟨rfl, m2, rfl⟩; rw [HK2.out]))
        have HW := Lib.hid (below_drewN (Below.refl w.heap.size w) (m + m2))
        have HW1 := Lib.hid (show (w.drewN (m + m2)).heap.size = w.heap.size from rfl)
        generalize w.drewN (m + m2) = w1 at *
        go_loopw [8, 9] (fun s' i wr => GrowRelJ (codeF (rvB z 0 c) 0) n w.heap.size w s' i wr ∧ ∀ j : Nat, (j : Int) < intOf i → okCh (c.getD j 0) = true) (fun _ i _ => n - (intOf i).toNat)
        case atStart =>
          have hg := growJ_first (f := codeF (rvB z 0 c) 0) (n := n) (by rw [HW1.out]; exact Nat.le_refl _) rfl HW.out (by rw [HW1.out]; exact Nat.le_refl _)
          rw [HW1.out] at hg
          exact ⟨hg, fun j hj => by simp [intOf] at hj; omega⟩
        case round =>
          obtain ⟨⟨k, b, cp, ys, hk, rfl, rfl, hy, ho', he, hl⟩, hch⟩ := hrel
          have HY := Lib.hid hy
          have HO := Lib.hid ho'
          have HE := Lib.hid he
          have HL := Lib.hid hl
          have HOK := Lib.hid hch
          have hk0 : (0 : Int) ≤ (k : Int) := by omega
          clear hy ho' he hl hch
          by_cases hlt : k < n
          · have hlt' : (k : Int) < (n : Int) := by omega
            rcases HF.out.2.2.2.2 with h' | ⟨ab, off, rfl, hab, hcell⟩
            · omega
            rcases HR.out.2.2.2.2 with h' | ⟨ac, offc, rfl, hac, hcellc⟩
            · omega
            have hx : wr.cell? ⟨ab, off + k, none⟩ = some (.float .f32 (z.getD k 0)) := (HL.out.cell (p := ⟨ab, off + k, none⟩) hab).trans (hcell k hlt)
            have hxc : wr.cell? ⟨ac, offc + k, none⟩ = some (.int .i64 (c.getD k 0)) := (HL.out.cell (p := ⟨ac, offc + k, none⟩) hac).trans (hcellc k hlt)
            have A1 := Lib.hid (show ys.length + 1 ≤ maxLen by have := HY.out; unfold maxLen; omega)
            have A2 := Lib.hid (show (ys.length + 1) * 8 ≤ 140737488355328 by have := HY.out; omega)
            have A3 := Lib.hid HL.out.size
            cases hch : okCh (c.getD k 0) with
            | false =>
              have HX := Lib.hid (show vCodesBy z 0 c = (false, []) by
                unfold vCodesBy
                rw [if_neg]
                intro hall
                simp only [okChs, Bool.and_eq_true, List.all_eq_true] at hall
                have := hall.2 (c.getD k 0) (by simp [List.getD, show k < c.length by rw [HNC.out]; exact hlt])
                rw [hch] at this; cases this)
              obtain ⟨d, hd⟩ : ∃ d, c.getD k 0 = d := ⟨_, rfl⟩
              rw [hd] at hxc hch
              have HCH := Lib.hid (show (decide ((0 : Int) ≤ d) && decide (d ≤ 255)) = false from hch)
              clear hcell hcellc hch hd
              go_wp2_with (go_at_call 62; refine (c_l00In d 0 255 _ HCH.out _).mono ?_; rintro e w' ⟨rfl, rfl⟩)
              go_ret2
              exact ⟨none, 0, [], by rw [HX.out]; rfl, nil_ownI _ _, by rw [HX.out], HL.out⟩
            | true =>
              have HNX := Lib.hid (show ∀ j : Nat, (j : Int) < intOf (.int .i64 ((k : Int) + 1)) → okCh (c.getD j 0) = true from fun j hj => if e : j = k then by rw [e]; exact hch else HOK.out j (by simp [intOf] at hj ⊢; omega))
              obtain ⟨d, hd⟩ : ∃ d, c.getD k 0 = d := ⟨_, rfl⟩
              rw [hd] at hxc hch
              have HCH := Lib.hid (show (decide ((0 : Int) ≤ d) && decide (d ≤ 255)) = true from hch)
              clear hcell hcellc hch hd
              go_wp2_with (first | (go_at_call 62; refine (c_l00In d 0 255 _ HCH.out _).mono ?_; rintro e w' ⟨rfl, rfl⟩) | (at_builtin; refine wpList_append_any _ rfl (.tmp 67) (.tmp 69) 41 rfl w.heap.size 2 i0 (.int .i64 0) 1 8 Try.underlying41 JI.out HZ0.out HZ1.out HZ2.out rfl Nat.one_pos (.slice b ys.length cp) ys.length (ys.map toV) rfl (growJ_own HO.out) (wr.heap.size + 1) (some ⟨wr.heap.size, 0, none⟩) 1 1 [.int .i64 0] rfl growJ_reads (one_i64 _) A1.out A2.out (growJ_base A3.out) ?_; intro v' w' hown hgr hat; obtain ⟨a', c', rfl⟩ := ownsRow_slice hown; have HMD := Lib.hid (growJ_next (n := n) hlt HO.out (Nat.le_refl _) HL.out HE.out HY.out rfl (HC0.out k) hown hgr); clear hown hgr hat))
              go_roundw
              case rel => exact ⟨HMD.out, HNX.out⟩
              case measure => simp [intOf]; omega
          · obtain rfl : k = n := by omega
            have HX := Lib.hid (show vCodesBy z 0 c = (true, (List.range k).map (codeF (rvB z 0 c) 0)) by
              unfold vCodesBy
              rw [if_pos, vCodes_yes HK.out HK2.out, HN.out]
              simp only [okChs, Bool.and_eq_true, decide_eq_true_eq, List.all_eq_true]
              refine ⟨by rw [HNC.out, HN.out], fun x hx => ?_⟩
              obtain ⟨i, hi, rfl⟩ := List.mem_iff_getElem.1 hx
              have := HOK.out i (by rw [HNC.out] at hi; simp [intOf]; omega)
              simpa [List.getD, hi] using this)
            have HLL := Lib.hid (show ((List.range k).map (codeF (rvB z 0 c) 0)).length = k by simp)
            go_wp2_with fail
            go_ret2
            exact ⟨b, cp, ys, by rw [HX.out]; rfl, HO.out, by rw [HX.out]; exact HE.out, HL.out⟩
      · have hp : 0 < s := Nat.pos_of_ne_zero h0
        have ho : (FloatKind.f32.format.order s 0 == some .gt) = true := by
          rw [ord_gt hs (by decide) (fin_num hsf) zero_num (by rw [k32_nn (show s < 2147483648 by omega), k32_nn (show 0 < 2147483648 by decide)]; omega)]; rfl
        have HQ := Lib.hid (fun k (hk' : k < n) => vq_at (okFin_at HK.out (show k < z.length by rw [HN.out]; exact hk')) hp hsl)
        have HWS := wide_at hsf
        have HCF := Lib.hid (show ∀ k, codeF (rvB z s c) s k = lim (chV (vq (z.getD k 0) s) (c.getD k 0)) from fun k => if_neg h0)
        obtain ⟨S, hS⟩ : ∃ x, cwide s = x := ⟨_, rfl⟩
        rw [hS] at HQ HWS
        obtain ⟨hw1, hw2⟩ := HWS
        clear hS hsf hsl hp h0
        go_enter Try.func32, Try.ntmps32
        go_wp2_with (first | (go_at_call 53; refine (c_l06List _ _ _ _ _ HF.out).mono ?_; rintro e w' ⟨rfl, m, rfl⟩; rw [HK.out]) | (go_at_call 57; refine (c_l06Spread _ hs _).mono ?_; rintro e w' ⟨rfl, m2, rfl⟩; rw [HK2.out]))
        have HW := Lib.hid (below_drewN (Below.refl w.heap.size w) (m + m2))
        have HW1 := Lib.hid (show (w.drewN (m + m2)).heap.size = w.heap.size from rfl)
        generalize w.drewN (m + m2) = w1 at *
        go_loopw [8, 9] (fun s' i wr => GrowRelJ (codeF (rvB z s c) s) n w.heap.size w s' i wr ∧ ∀ j : Nat, (j : Int) < intOf i → okCh (c.getD j 0) = true) (fun _ i _ => n - (intOf i).toNat)
        case atStart =>
          have hg := growJ_first (f := codeF (rvB z s c) s) (n := n) (by rw [HW1.out]; exact Nat.le_refl _) rfl HW.out (by rw [HW1.out]; exact Nat.le_refl _)
          rw [HW1.out] at hg
          exact ⟨hg, fun j hj => by simp [intOf] at hj; omega⟩
        case round =>
          obtain ⟨⟨k, b, cp, ys, hk, rfl, rfl, hy, ho', he, hl⟩, hch⟩ := hrel
          have HY := Lib.hid hy
          have HO := Lib.hid ho'
          have HE := Lib.hid he
          have HL := Lib.hid hl
          have HOK := Lib.hid hch
          have hk0 : (0 : Int) ≤ (k : Int) := by omega
          clear hy ho' he hl hch
          by_cases hlt : k < n
          · have hlt' : (k : Int) < (n : Int) := by omega
            rcases HF.out.2.2.2.2 with h' | ⟨ab, off, rfl, hab, hcell⟩
            · omega
            rcases HR.out.2.2.2.2 with h' | ⟨ac, offc, rfl, hac, hcellc⟩
            · omega
            have hx : wr.cell? ⟨ab, off + k, none⟩ = some (.float .f32 (z.getD k 0)) := (HL.out.cell (p := ⟨ab, off + k, none⟩) hab).trans (hcell k hlt)
            have hxc : wr.cell? ⟨ac, offc + k, none⟩ = some (.int .i64 (c.getD k 0)) := (HL.out.cell (p := ⟨ac, offc + k, none⟩) hac).trans (hcellc k hlt)
            have A1 := Lib.hid (show ys.length + 1 ≤ maxLen by have := HY.out; unfold maxLen; omega)
            have A2 := Lib.hid (show (ys.length + 1) * 8 ≤ 140737488355328 by have := HY.out; omega)
            have A3 := Lib.hid HL.out.size
            cases hch : okCh (c.getD k 0) with
            | false =>
              have HX := Lib.hid (show vCodesBy z s c = (false, []) by
                unfold vCodesBy
                rw [if_neg]
                intro hall
                simp only [okChs, Bool.and_eq_true, List.all_eq_true] at hall
                have := hall.2 (c.getD k 0) (by simp [List.getD, show k < c.length by rw [HNC.out]; exact hlt])
                rw [hch] at this; cases this)
              obtain ⟨d, hd⟩ : ∃ d, c.getD k 0 = d := ⟨_, rfl⟩
              rw [hd] at hxc hch
              have HCH := Lib.hid (show (decide ((0 : Int) ≤ d) && decide (d ≤ 255)) = false from hch)
              clear hcell hcellc hch hd
              go_wp2_with (go_at_call 62; refine (c_l00In d 0 255 _ HCH.out _).mono ?_; rintro e w' ⟨rfl, rfl⟩)
              go_ret2
              exact ⟨none, 0, [], by rw [HX.out]; rfl, nil_ownI _ _, by rw [HX.out], HL.out⟩
            | true =>
              have HNX := Lib.hid (show ∀ j : Nat, (j : Int) < intOf (.int .i64 ((k : Int) + 1)) → okCh (c.getD j 0) = true from fun j hj => if e : j = k then by rw [e]; exact hch else HOK.out j (by simp [intOf] at hj ⊢; omega))
              obtain ⟨q1, q2, q3, q4⟩ := HQ.out k hlt
              obtain ⟨x1, x2⟩ := wide_at (okFin_at HK.out (show k < z.length by rw [HN.out]; exact hlt))
              have HFL := Lib.hid (fun w => c_floor _ q3 w)
              have ht := chT_eq q3 (c.getD k 0)
              obtain ⟨e1, e2, _, _⟩ := add_one (rte_num (way := .down) q3)
              obtain ⟨g1, g2⟩ := chV_ok q3 (c.getD k 0)
              have HLM := Lib.hid (fun w => c_l06Limit _ g1 g2 w)
              have HWF := Lib.hid (wf_128 (lim_in (chV (vq (z.getD k 0) s) (c.getD k 0)) g1))
              have HCK := Lib.hid (HCF.out k)
              clear g1 g2
              cases ht0 : chT (vq (z.getD k 0) s) (c.getD k 0) with
              | true =>
                have HV := Lib.hid (show chV (vq (z.getD k 0) s) (c.getD k 0) = cop .add .f64 (rteV .down (vq (z.getD k 0) s)) 4607182418800017408 by unfold chV; rw [if_pos ht0])
                rw [HV.out] at HCK HWF
                simp only [HV.out] at HLM
                rw [ht0] at ht
                clear ht0
                obtain ⟨u, hu⟩ : ∃ u, cop .add .f64 (rteV .down (vq (z.getD k 0) s)) 4607182418800017408 = u := ⟨_, rfl⟩
                rw [hu] at HCK HWF
                simp only [hu] at HLM e1
                obtain ⟨L, hL⟩ : ∃ y, lim u = y := ⟨_, rfl⟩
                rw [hL] at HCK HWF
                simp only [hL] at HLM
                obtain ⟨X, hX⟩ : ∃ x, cwide (z.getD k 0) = x := ⟨_, rfl⟩
                rw [hX] at q2
                obtain ⟨q, hq⟩ : ∃ x, vq (z.getD k 0) s = x := ⟨_, rfl⟩
                simp only [hX, hq] at q1 x1 ht HFL HLM e1 e2
                obtain ⟨v, hv⟩ : ∃ y, rteV .down q = y := ⟨_, rfl⟩
                simp only [hv] at ht HFL HLM e1 e2
                obtain ⟨d, hd⟩ : ∃ d, c.getD k 0 = d := ⟨_, rfl⟩
                rw [hd] at hxc hch
                simp only [hd] at ht
                have HCH := Lib.hid (show (decide ((0 : Int) ≤ d) && decide (d ≤ 255)) = true from hch)
                obtain ⟨x, hz⟩ : ∃ y, z.getD k 0 = y := ⟨_, rfl⟩
                rw [hz] at hx x2
                simp only [hz] at x1
                clear hcell hcellc hch hd hX hq hv hz HV q3 q4 hL hu
                go_wp2_with (first | (go_at_call 62; refine (c_l00In d 0 255 _ HCH.out _).mono ?_; rintro e w' ⟨rfl, rfl⟩) | (go_at_call 63; refine (HFL.out _).mono ?_; rintro e w' ⟨rfl, rfl⟩) | (go_at_call 58; refine (HLM.out _).mono ?_; rintro e w' ⟨rfl, rfl⟩) | (at_builtin; refine wpList_append_any _ rfl (.tmp 67) (.tmp 69) 41 rfl w.heap.size 2 i0 (.int .i64 0) 1 8 Try.underlying41 JI.out HZ0.out HZ1.out HZ2.out rfl Nat.one_pos (.slice b ys.length cp) ys.length (ys.map toV) rfl (growJ_own (HO.out.kept (below_drewN (Below.refl _ _) _))) (wr.heap.size + 1) (some ⟨wr.heap.size, 0, none⟩) 1 1 [.int .i64 L] rfl (growJ_reads (wr := wr.drewN _)) (one_i64 _) A1.out A2.out (growJ_base (wr := wr.drewN _) A3.out) ?_; intro v' w' hown hgr hat; obtain ⟨a', c', rfl⟩ := ownsRow_slice hown; have HMD := Lib.hid (growJ_next (n := n) (wr := wr.drewN _) hlt (HO.out.kept (below_drewN (Below.refl _ _) _)) (Nat.le_refl _) (below_drewN HL.out _) HE.out HY.out HWF.out HCK.out.symm hown hgr); clear hown hgr hat))
                go_roundw
                case rel => exact ⟨HMD.out, HNX.out⟩
                case measure => simp [intOf]; omega
              | false =>
                have HV := Lib.hid (show chV (vq (z.getD k 0) s) (c.getD k 0) = rteV .down (vq (z.getD k 0) s) by unfold chV; rw [if_neg (by rw [ht0]; decide)])
                rw [HV.out] at HCK HWF
                simp only [HV.out] at HLM
                rw [ht0] at ht
                clear ht0
                clear e1 e2
                obtain ⟨L, hL⟩ : ∃ y, lim (rteV .down (vq (z.getD k 0) s)) = y := ⟨_, rfl⟩
                rw [hL] at HCK HWF
                simp only [hL] at HLM
                obtain ⟨X, hX⟩ : ∃ x, cwide (z.getD k 0) = x := ⟨_, rfl⟩
                rw [hX] at q2
                obtain ⟨q, hq⟩ : ∃ x, vq (z.getD k 0) s = x := ⟨_, rfl⟩
                simp only [hX, hq] at q1 x1 ht HFL HLM 
                obtain ⟨v, hv⟩ : ∃ y, rteV .down q = y := ⟨_, rfl⟩
                simp only [hv] at ht HFL HLM 
                obtain ⟨d, hd⟩ : ∃ d, c.getD k 0 = d := ⟨_, rfl⟩
                rw [hd] at hxc hch
                simp only [hd] at ht
                have HCH := Lib.hid (show (decide ((0 : Int) ≤ d) && decide (d ≤ 255)) = true from hch)
                obtain ⟨x, hz⟩ : ∃ y, z.getD k 0 = y := ⟨_, rfl⟩
                rw [hz] at hx x2
                simp only [hz] at x1
                clear hcell hcellc hch hd hX hq hv hz HV q3 q4 hL 
                go_wp2_with (first | (go_at_call 62; refine (c_l00In d 0 255 _ HCH.out _).mono ?_; rintro e w' ⟨rfl, rfl⟩) | (go_at_call 63; refine (HFL.out _).mono ?_; rintro e w' ⟨rfl, rfl⟩) | (go_at_call 58; refine (HLM.out _).mono ?_; rintro e w' ⟨rfl, rfl⟩) | (at_builtin; refine wpList_append_any _ rfl (.tmp 67) (.tmp 69) 41 rfl w.heap.size 2 i0 (.int .i64 0) 1 8 Try.underlying41 JI.out HZ0.out HZ1.out HZ2.out rfl Nat.one_pos (.slice b ys.length cp) ys.length (ys.map toV) rfl (growJ_own (HO.out.kept (below_drewN (Below.refl _ _) _))) (wr.heap.size + 1) (some ⟨wr.heap.size, 0, none⟩) 1 1 [.int .i64 L] rfl (growJ_reads (wr := wr.drewN _)) (one_i64 _) A1.out A2.out (growJ_base (wr := wr.drewN _) A3.out) ?_; intro v' w' hown hgr hat; obtain ⟨a', c', rfl⟩ := ownsRow_slice hown; have HMD := Lib.hid (growJ_next (n := n) (wr := wr.drewN _) hlt (HO.out.kept (below_drewN (Below.refl _ _) _)) (Nat.le_refl _) (below_drewN HL.out _) HE.out HY.out HWF.out HCK.out.symm hown hgr); clear hown hgr hat))
                go_roundw
                case rel => exact ⟨HMD.out, HNX.out⟩
                case measure => simp [intOf]; omega
          · obtain rfl : k = n := by omega
            have HX := Lib.hid (show vCodesBy z s c = (true, (List.range k).map (codeF (rvB z s c) s)) by
              unfold vCodesBy
              rw [if_pos, vCodes_yes HK.out HK2.out, HN.out]
              simp only [okChs, Bool.and_eq_true, decide_eq_true_eq, List.all_eq_true]
              refine ⟨by rw [HNC.out, HN.out], fun x hx => ?_⟩
              obtain ⟨i, hi, rfl⟩ := List.mem_iff_getElem.1 hx
              have := HOK.out i (by rw [HNC.out] at hi; simp [intOf]; omega)
              simpa [List.getD, hi] using this)
            have HLL := Lib.hid (show ((List.range k).map (codeF (rvB z s c) s)).length = k by simp)
            go_wp2_with fail
            go_ret2
            exact ⟨b, cp, ys, by rw [HX.out]; rfl, HO.out, by rw [HX.out]; exact HE.out, HL.out⟩
end Go.Proofs.Ytgffcmmdmenefaa
