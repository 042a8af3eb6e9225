/-
  The loss of shares, as the model makes it. Conditions: the numbers can be read.
-/
import Derived.Test.YtaklcmibpnpffaaLEnt
namespace Go.Proofs.Ytaklcmibpnpffaa
open Go.RowKit Go.Deep Go.WideShapes Go.ChangeShapes
set_option linter.unusedVariables false

theorem map_at (z : List Nat) (f : Nat → Nat) : (List.range z.length).map (fun i => f (z.getD i 0)) = z.map f := map_range z f
set_option maxRecDepth 20000 in
set_option maxHeartbeats 4000000 in
theorem t_sLossEntropy_no (z : List Nat) (l : Int) (a : Option Addr) (w : World) (h : IsFloats .f32 w a z.length z.length z) (hok : okLab z.length l = false) :
    Calls Try.prog 36 #[.slice a z.length z.length, .int .i64 l] w (RetQ 0 false [] w) := by
  have hm1 : z.length ≤ 9223372036854775807 := by have := h.2.1; unfold maxLen at this; exact this
  have hno := okLab_no hok
  clear hok h
  by_cases c0 : z.length = 0
  · have c0' : (z.length : Int) ≤ 0 := by omega
    clear hno c0
    go_enter Try.func36, Try.ntmps36
    go_wp2_with fail
    refine bodyPost_ret (v := .tuple #[.float .f32 0, .slice none 0 0, .bool false]) (by simp [results, Try.results36]) rfl ?_
    exact ⟨0, none, 0, [], by decide +kernel, rfl, nil_own _ _, rfl, Below.refl _ _⟩
  · have c0' : (1 : Int) ≤ (z.length : Int) := by omega
    by_cases c1 : 9 ≤ z.length
    · have c1' : (9 : Int) ≤ (z.length : Int) := by omega
      clear hno c0 c1
      go_enter Try.func36, Try.ntmps36
      go_wp2_with fail
      refine bodyPost_ret (v := .tuple #[.float .f32 0, .slice none 0 0, .bool false]) (by simp [results, Try.results36]) rfl ?_
      exact ⟨0, none, 0, [], by decide +kernel, rfl, nil_own _ _, rfl, Below.refl _ _⟩
    · have c1' : (z.length : Int) ≤ 8 := by omega
      have H := Lib.hid (show (decide (0 ≤ l) && decide (l ≤ (z.length : Int) - 1)) = false by simp only [Bool.and_eq_false_iff, decide_eq_false_iff_not]; omega)
      clear hno c0 c1
      go_enter Try.func36, Try.ntmps36
      go_wp2_with (go_at_call 53; refine (c_l00In _ _ _ false H.out _).mono ?_; rintro e w' ⟨rfl, rfl⟩)
      refine bodyPost_ret (v := .tuple #[.float .f32 0, .slice none 0 0, .bool false]) (by simp [results, Try.results36]) rfl ?_
      exact ⟨0, none, 0, [], by decide +kernel, rfl, nil_own _ _, rfl, Below.refl _ _⟩
set_option maxRecDepth 20000 in
set_option maxHeartbeats 4000000 in
theorem t_sLossEntropy_yes (z : List Nat) (k : Nat) (a : Option Addr) (w : World) (h : IsFloats .f32 w a z.length z.length z) (hk : k < z.length) (h8 : z.length ≤ 8) :
    Calls Try.prog 36 #[.slice a z.length z.length, .int .i64 (k : Int)] w (RetQ (vEnt z k).1 (vEnt z k).2.1 (vEnt z k).2.2 w) := by
  have HF := Lib.hid h
  have HM := Lib.hid (fun x hx => gmax_not z (x := x) hx)
  have hq := gixF_lt (fun j => z.getD j 0) (show 1 ≤ z.length by omega)
  have hgm : z.getD (gixF (fun j => z.getD j 0) z.length) 0 = gmax z := rfl
  have hml : gmax z < 2 ^ 32 := h.2.2.2.1 _ (getD_mem hq)
  have HML := Lib.hid hml
  obtain ⟨q, hqq⟩ : ∃ q, gixF (fun j => z.getD j 0) z.length = q := ⟨_, rfl⟩
  rw [hqq] at hq hgm
  have HQ := Lib.hid hqq
  have hq' : (q : Int) < (z.length : Int) := by omega
  have hq0 : (0 : Int) ≤ (q : Int) := by omega
  have H := Lib.hid (show (decide (0 ≤ (k : Int)) && decide ((k : Int) ≤ (z.length : Int) - 1)) = true by simp only [Bool.and_eq_true, decide_eq_true_eq]; omega)
  have n1 : (1 : Int) ≤ (z.length : Int) := by omega
  have n8 : (z.length : Int) ≤ 8 := by omega
  rcases h.2.2.2.2 with h0 | ⟨b, off, rfl, hb, hc⟩
  · omega
  have HCA := Lib.hid hc
  have hcq := hc q hq
  rw [hgm] at hcq
  have HBK := Lib.hid hb
  obtain ⟨i0, hi, hz0, hz1, hz2⟩ := info_parts info_f32
  have HI := Lib.hid hi
  have HZ0 := Lib.hid hz0
  have HZ1 := Lib.hid hz1
  have HZ2 := Lib.hid hz2
  obtain ⟨gm, hgm2⟩ : ∃ gm, gmax z = gm := ⟨_, rfl⟩
  have HGM := Lib.hid hgm2
  rw [hgm2] at HM HML hcq
  clear h hc hqq hgm hml hb hi hz0 hz1 hz2 hgm2
  go_enter Try.func36, Try.ntmps36
  go_wp2_with (go_at_call 53; refine (c_l00In _ _ _ true H.out _).mono ?_; rintro e w' ⟨rfl, rfl⟩)
  refine (c_l05Greatest _ _ _ z _ HF.out (by omega) (by omega)).mono ?_
  rintro e w' ⟨rfl, m, rfl⟩
  rw [HQ.out]
  go_wp2_with fail
  go_loopw [8, 9] (fun s i wr => GrowRel (fun i => cE gm (z.getD i 0)) z.length w.heap.size w s i wr) (fun _ i _ => z.length - (intOf i).toNat)
  case atStart => exact grow_first (wr := w.drewN m) (Nat.le_refl _) rfl (below_drewN (Below.refl _ _) _) (Nat.le_refl _)
  case round =>
    obtain ⟨j, p, cp, xs, hj, rfl, rfl, hy, ho, he, hl⟩ := hrel
    have HY := Lib.hid hy
    have HO := Lib.hid ho
    have HE := Lib.hid he
    have HL := Lib.hid hl
    have hj0 : (0 : Int) ≤ (j : Int) := by omega
    clear hy ho he hl hcq
    by_cases hlt : j < z.length
    · have hlt' : (j : Int) < (z.length : Int) := by omega
      have hx : wr.cell? ⟨b, off + j, none⟩ = some (.float .f32 (z.getD j 0)) := (HL.out.cell (p := ⟨b, off + j, none⟩) HBK.out).trans (HCA.out j hlt)
      have HN := Lib.hid (HM.out _ (getD_mem hlt))
      have HG := Lib.hid (show ∀ x w1, z.getD j 0 = x → cexp32 (canon .f32 (fval .sub .f32 x gm w1)) = cE gm (z.getD j 0) by intro x w1 h1; rw [canon_fval, ← h1]; rfl)
      obtain ⟨x, hxx⟩ : ∃ x, z.getD j 0 = x := ⟨_, rfl⟩
      rw [hxx] at hx HN
      have HG2 := Lib.hid (fun w1 => HG.out x w1 hxx)
      have HE1 := Lib.hid (fun w1 w2 => c_l01ExpN (fval .sub .f32 x gm w1) w2 (sub_neg w1 HN.out) (fval_lt .sub .f32 x gm w1))
      clear hxx HG HN
      have A1 := Lib.hid (show xs.length + 1 ≤ maxLen by have := HY.out; unfold maxLen; omega)
      have A2 := Lib.hid (show (xs.length + 1) * 4 ≤ 140737488355328 by have := HY.out; omega)
      have A3 := Lib.hid HL.out.size
      go_wp2_with fail
      refine (HE1.out _ _).mono ?_
      rintro e w' ⟨r, d, hr, hrl, rfl, rfl⟩
      have HR := Lib.hid (hr.trans (HG2.out _))
      have HRL := Lib.hid hrl
      clear hr hrl HG2 HE1
      go_wp2_with (at_builtin; refine wpList_append_any _ rfl (.tmp 41) (.tmp 49) 30 rfl w.heap.size 22 i0 (.float .f32 0) 1 4 Try.underlying30 HI.out HZ0.out HZ1.out HZ2.out rfl Nat.one_pos (.slice p xs.length cp) xs.length (xs.map (Value.float .f32)) rfl (grow_own HO.out) (wr.heap.size + 1) (some ⟨wr.heap.size, 0, none⟩) 1 1 [.float .f32 r] rfl grow_reads (one_f32 _) A1.out A2.out (grow_base A3.out) ?_; intro v' w' hown hgr hat; obtain ⟨a', c', rfl⟩ := ownsRow_slice hown; have HMD := Lib.hid (grow_next (n := z.length) hlt HO.out (Nat.le_refl _) HL.out HE.out HY.out HRL.out HR.out hown hgr); clear hown hgr hat)
      go_roundw
      case rel => exact HMD.out
      case measure => simp [intOf]; omega
    · obtain rfl : j = z.length := by omega
      have HE2 := Lib.hid (show xs.map (canon .f32) = z.map (cE gm) from HE.out.trans (map_range z (cE gm)))
      have HYL := Lib.hid HY.out
      have HE0 := Lib.hid HE.out
      have n2 : (k : Int) < (xs.length : Int) := by have := HYL.out; omega
      have n3 : (k : Int) < (z.length : Int) := by omega
      have n4 : (0 : Int) ≤ (k : Int) := by omega
      clear HY HE
      go_wp2_with fail
      refine (c_l01Sum _ _ _ xs _ HO.out.isFloats).mono ?_
      rintro e w' ⟨s, d, hs, hsl, rfl, rfl⟩
      have HS := Lib.hid (show canon .f32 s = csum (z.map (cE gm)) by rw [hs, ← HE2.out, csum_can])
      have HB2 := Lib.hid (below_drewN HL.out d)
      have HO2 := Lib.hid (HO.out.drewN d)
      have k2 := (HB2.out.cell (p := ⟨b, off + k, none⟩) HBK.out).trans (HCA.out k hk)
      obtain ⟨x, hx⟩ : ∃ x, z.getD k 0 = x := ⟨_, rfl⟩
      rw [hx] at k2
      have HZ := Lib.hid hx
      generalize wr.drewN d = w3 at HB2 HO2 k2 ⊢
      clear hs hsl hx HL HO
      go_upto_region 10 with fail
      go_cut [11] (fun v wx => ∃ r n, v = .float .f32 r ∧ canon .f32 r = cop .sub .f32 (cLog32 (canon .f32 s)) (cop .sub .f32 (canon .f32 x) (canon .f32 gm)) ∧ wx = w3.drewN n)
      case first =>
        go_region_with (go_at_call 80; refine (c_l01Log _ _).mono ?_; rintro e wz ⟨r, m, hr, hrl, rfl, rfl⟩; have HR := Lib.hid hr; clear hr hrl)
        all_goals (go_wp2_with fail; go_meet; exact ⟨_, _, rfl, by rw [canon_fval, canon_fval, HR.out]; rfl, rfl⟩)
      case rest =>
        obtain ⟨r, n, rfl, hr, rfl⟩ := hcut
        have HR := Lib.hid hr
        have HB3 := Lib.hid (below_drewN HB2.out n)
        have HO3 := Lib.hid (HO2.out.drewN n)
        generalize w3.drewN n = w4 at HB3 HO3 ⊢
        have hxl : xs.length ≤ 256 := by have := HYL.out; omega
        clear hr k2 HB2 HO2
        go_wp2_with fail
        go_loopw [64] (fun i wr => UpdRel (fun i => cop .quo .f32 (cE gm (z.getD i 0)) (canon .f32 s)) xs w.heap.size p cp w i wr) (fun i _ => xs.length - (intOf i).toNat)
        case atStart => exact upd_first HO3.out HB3.out
        case round =>
          obtain ⟨j, ys, hj2, rfl, hy, ho, he, hb⟩ := hrel
          have HY := Lib.hid hy
          have HO := Lib.hid ho
          have HE3 := Lib.hid he
          have HB := Lib.hid hb
          have hj0 : (0 : Int) ≤ (j : Int) := by omega
          clear hy ho he hb HB3 HO3
          by_cases hlt2 : j < xs.length
          · have hlt' : (j : Int) < (xs.length : Int) := by omega
            obtain ⟨g, rfl, hg, hg2⟩ := own_some HO.out (by rw [upd_length hj2 HY.out]; omega)
            obtain ⟨hc, hf⟩ := own_cell (k := j) HO.out (by rw [upd_length hj2 HY.out]; omega)
            rw [upd_at HY.out] at hc
            have HC := Lib.hid (canon_getD HE0.out (show j < z.length by rw [← HYL.out]; exact hlt2))
            obtain ⟨y, hy⟩ : ∃ y, xs.getD j 0 = y := ⟨_, rfl⟩
            rw [hy] at hc HC
            clear hy
            go_wp2_with fail
            go_roundw
            case rel => exact upd_next hlt2 HY.out HO.out HE3.out HB.out (below_drewN (Below.refl _ _) _) HB.out.size (fval_lt .quo .f32 _ _ _) (by rw [canon_fval, HC.out])
            case measure => simp [intOf]; omega
          · obtain rfl : j = xs.length := by omega
            have HO4 := Lib.hid (upd_end HY.out HO.out)
            have HE4 := Lib.hid (show ys.map (canon .f32) = z.map (cShare z) by
              rw [HE3.out, HYL.out, map_range z (fun x => cop .quo .f32 (cE gm x) (canon .f32 s)), HS.out, ← HGM.out]; rfl)
            have n5 : (k : Int) < (ys.length : Int) := by have := HY.out; omega
            obtain ⟨g, rfl, hg, hg2⟩ := own_some HO4.out (by omega)
            obtain ⟨hc, hf⟩ := own_cell (k := k) HO4.out (by omega)
            have HS4 := Lib.hid (share_at HE4.out hk)
            obtain ⟨y, hy⟩ : ∃ y, ys.getD k 0 = y := ⟨_, rfl⟩
            rw [hy] at hc HS4
            clear hy HO
            go_wp2_with fail
            have HV := Lib.hid (show ∀ w2, canon .f32 (fval .sub .f32 y 1065353216 w2) = cop .sub .f32 (cShare z (z.getD k 0)) 1065353216 from fun w2 => by rw [canon_fval, HS4.out, canon_one32])
            go_ret3
            refine ⟨_, some ⟨g, 0, none⟩, cp, ys.set k (fval .sub .f32 y 1065353216 wr), ?_, by rw [List.length_set, HY.out]; rfl, own_set (HO4.out.drewN _) (by omega) (fval_lt .sub .f32 _ _ _), set_map HE4.out (HV.out _), (below_drewN HB.out _).setCell hg _⟩
            rw [HR.out, HS.out]
            unfold vEnt
            rw [HZ.out, HGM.out, ← HGM.out]
            rfl
theorem t_sLossEntropy (z : List Nat) (l : Int) (a : Option Addr) (w : World) (h : IsFloats .f32 w a z.length z.length z) :
    Calls Try.prog 36 #[.slice a z.length z.length, .int .i64 l] w (RetQ (vLossEntropy z l).1 (vLossEntropy z l).2.1 (vLossEntropy z l).2.2 w) := by
  cases hok : okLab z.length l with
  | false =>
    rw [vLossEntropy_no hok]
    exact t_sLossEntropy_no z l a w h hok
  | true =>
    obtain ⟨k, rfl, hk, h8⟩ := okLab_yes hok
    rw [vLossEntropy_yes hok]
    exact t_sLossEntropy_yes z k a w h hk h8
end Go.Proofs.Ytaklcmibpnpffaa
