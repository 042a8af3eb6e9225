/-
  The loss that bends: the same for the program and for its model. Conditions: the numbers can be read.
-/
import Derived.Test.YtaklcmibpnpffaaLAbs
import Derived.BigQuiet
import Derived.Deep.QuietTactic
namespace Go.Proofs.Ytaklcmibpnpffaa
open Go.RowKit Go.Deep Go.WideShapes Go.ChangeShapes
set_option linter.unusedVariables false

theorem canon_two : canon .f32 1073741824 = 1073741824 := by decide +kernel
def tLe (q m : Nat) : Bool := (FloatKind.f32.format.order q m == some .lt || FloatKind.f32.format.order q m == some .eq)
theorem tLe_canon (q m : Nat) : tLe (canon .f32 q) m = tLe q m := by
  unfold tLe
  rw [← order_canon .f32 (canon .f32 q) m, canon_canon, order_canon]
def Ph (m d : Nat) : Nat := if tLe (cabs d) m = true then cop .quo .f32 (cop .mul .f32 d d) 1073741824 else cop .mul .f32 (canon .f32 m) (cop .sub .f32 (cabs d) (cop .quo .f32 (canon .f32 m) 1073741824))
def Sh (m d : Nat) : Nat := if tLe (cabs d) m = true then d else if tGt d = true then canon .f32 m else canon .f32 (Op.negFloat .f32 m)
def vLossHuber (z0 z1 : List Nat) (m : Nat) : Nat × Bool × List Nat := vLoss (Ph m) (Sh m) z0 z1
theorem vLossHuber_len (z0 z1 : List Nat) (m : Nat) : (vLossHuber z0 z1 m).2.2.length ≤ 1048576 := vLoss_len _ _ _ _
theorem neg_lt (m : Nat) (h : m < 4294967296) : Op.negFloat .f32 m < 2 ^ 32 := Nat.xor_lt_two_pow (show m < 2 ^ 32 from h) (show 2 ^ (FloatKind.f32.format.exponentBits + FloatKind.f32.format.fractionBits) < 2 ^ 32 by decide)
theorem c_huberRule (m : Nat) (w : World) : Calls Try.prog 78 #[.float .f32 m] w fun e w' => e = .returned (.func (.func 107) #[] #[.pointer (some ⟨w.heap.size, 0, none⟩)]) ∧ w' = w.alloc (.cells #[.float .f32 m] 22) := by
  go_enter Try.func78, Try.ntmps78
  go_wp2_with fail
  go_ret
  exact ⟨rfl, rfl⟩
set_option maxHeartbeats 1000000 in
theorem x_huber1 (m x g : Nat) (hx : x < 4294967296) (hm : m < 4294967296) (w : World) (hg : w.cell? ⟨g, 0, none⟩ = some (.float .f32 m)) : Calls Try.prog 107 (#[.float .f32 x] ++ #[.pointer (some ⟨g, 0, none⟩)]) w (RetP (Ph m (canon .f32 x)) (Sh m (canon .f32 x)) w) := by
  show Calls Try.prog 107 #[.float .f32 x, .pointer (some ⟨g, 0, none⟩)] w _
  have HXX := Lib.hid (show x < 2 ^ 32 from hx)
  have HMM := Lib.hid (show m < 2 ^ 32 from hm)
  have HNN := Lib.hid (neg_lt m hm)
  have HT := Lib.hid (show tLe (x % 2147483648) m = tLe (cabs (canon .f32 x)) m by rw [← tLe_canon, canon_abs])
  have HA := Lib.hid (canon_abs x)
  have HAB := Lib.hid (fun w => c_absolute x hx w)
  obtain ⟨q, hq⟩ : ∃ q, x % 2147483648 = q := ⟨_, rfl⟩
  rw [hq] at HT HA HAB
  clear hq
  cases h1 : tLe q m with
  | true =>
    have HP := Lib.hid (show ∀ w1 w2, canon .f32 (fval .quo .f32 (fval .mul .f32 x x w1) 1073741824 w2) = Ph m (canon .f32 x) by intro w1 w2; rw [canon_fval, canon_fval, canon_two]; unfold Ph; rw [← HT.out, h1]; rfl)
    have HS := Lib.hid (show canon .f32 x = Sh m (canon .f32 x) by unfold Sh; rw [← HT.out, h1]; rfl)
    have h1' : (FloatKind.f32.format.order q m == some .lt || FloatKind.f32.format.order q m == some .eq) = true := h1
    clear h1 hx hm
    go_enter Try.func107, Try.ntmps107
    go_wp2_with (first | (go_at_call 106; refine (HAB.out _).mono ?_; rintro e w' ⟨rfl, rfl⟩) | (go_at_call 57; refine (c_productOfTwo _ _ _).mono ?_; rintro e w' ⟨rfl, rfl⟩))
    go_ret2
    exact ⟨_, _, rfl, HP.out _ _, HS.out, fval_lt .quo .f32 _ _ _, HXX.out, below_drewN (Below.refl _ _) _⟩
  | false =>
    have HP := Lib.hid (show ∀ w1 w2 w3, canon .f32 (fval .mul .f32 m (fval .sub .f32 q (fval .quo .f32 m 1073741824 w1) w2) w3) = Ph m (canon .f32 x) by intro w1 w2 w3; rw [canon_fval, canon_fval, canon_fval, HA.out, canon_two]; unfold Ph; rw [← HT.out, h1]; rfl)
    have h1' : (FloatKind.f32.format.order q m == some .lt || FloatKind.f32.format.order q m == some .eq) = false := h1
    cases h2 : tGt x with
    | true =>
      have HS := Lib.hid (show canon .f32 m = Sh m (canon .f32 x) by unfold Sh; rw [← HT.out, h1, tGt_canon, h2]; rfl)
      have h2' : (FloatKind.f32.format.order x 0 == some .gt) = true := h2
      clear h1 h2 hx hm
      go_enter Try.func107, Try.ntmps107
      go_wp2_with (first | (go_at_call 106; refine (HAB.out _).mono ?_; rintro e w' ⟨rfl, rfl⟩) | (go_at_call 57; refine (c_productOfTwo _ _ _).mono ?_; rintro e w' ⟨rfl, rfl⟩))
      go_quiet (fail)
      go_wp2_with fail
      go_ret2
      exact ⟨_, _, rfl, HP.out _ _ _, HS.out, fval_lt .mul .f32 _ _ _, HMM.out, by first | exact below_drewN (Below.refl _ _) _ | exact below_drewN (below_drewN (Below.refl _ _) _) _⟩
    | false =>
      have HS := Lib.hid (show canon .f32 (Op.negFloat .f32 m) = Sh m (canon .f32 x) by unfold Sh; rw [← HT.out, h1, tGt_canon, h2]; rfl)
      have h2' : (FloatKind.f32.format.order x 0 == some .gt) = false := h2
      clear h1 h2 hx hm
      go_enter Try.func107, Try.ntmps107
      go_wp2_with (first | (go_at_call 106; refine (HAB.out _).mono ?_; rintro e w' ⟨rfl, rfl⟩) | (go_at_call 57; refine (c_productOfTwo _ _ _).mono ?_; rintro e w' ⟨rfl, rfl⟩))
      go_quiet (fail)
      go_wp2_with fail
      go_ret2
      exact ⟨_, _, rfl, HP.out _ _ _, HS.out, fval_lt .mul .f32 _ _ _, HNN.out, by first | exact below_drewN (Below.refl _ _) _ | exact below_drewN (below_drewN (Below.refl _ _) _) _⟩
theorem t_iLossHuber (z0 z1 : List Nat) (m : Nat) (a0 a1 : Option Addr) (w : World) (h0 : IsFloats .f32 w a0 z0.length z0.length z0) (h1 : IsFloats .f32 w a1 z1.length z1.length z1) (hm : m < 4294967296) :
    Calls Try.prog 35 #[.slice a0 z0.length z0.length, .slice a1 z1.length z1.length, .float .f32 m] w (RetQ (vLossHuber z0 z1 m).1 (vLossHuber z0 z1 m).2.1 (vLossHuber z0 z1 m).2.2 w) := by
  have B1 := Lib.hid ((Below.refl w.heap.size w).alloc (Nat.le_refl _) (.cells #[.float .f32 m] 22))
  have K1 := Lib.hid (Blk.new w 22 #[.float .f32 m])
  have H0 := Lib.hid (h0.kept B1.out)
  have H1 := Lib.hid (h1.kept B1.out)
  clear h0 h1
  go_enter Try.func35, Try.ntmps35
  go_wp2_with (go_at_call 78; refine (c_huberRule _ _).mono ?_; rintro e w' ⟨rfl, rfl⟩)
  refine (c_lossBy 107 #[.pointer (some ⟨w.heap.size, 0, none⟩)] (Ph m) (Sh m) _ _ _ _ z0 z1 _ H0.out H1.out (enters_of Try.func107 (by kernel_rfl) (by kernel_rfl)) (fun x wr hx hb => x_huber1 m x _ hx hm wr ((K1.out.below hb).cell 0))).mono ?_
  rintro e w' ⟨r, a, c, ys, hr, rfl, ho, he, hb⟩
  have HR := Lib.hid hr
  have HO := Lib.hid ho
  have HE := Lib.hid he
  have HB := Lib.hid hb
  clear hr ho he hb
  go_wp2_with fail
  refine bodyPost_ret (v := .tuple #[.float .f32 r, .slice a ys.length c, .bool (vLossHuber z0 z1 m).2.1]) (by simp [results, Try.results35]; rfl) rfl ?_
  exact ⟨r, a, c, ys, HR.out, rfl, HO.out.base B1.out.size, HE.out, Below.next B1.out HB.out⟩
set_option maxRecDepth 20000 in
set_option maxHeartbeats 4000000 in
theorem t_sLossHuber (z0 z1 : List Nat) (m : Nat) (a0 a1 : Option Addr) (w : World) (h0 : IsFloats .f32 w a0 z0.length z0.length z0) (h1 : IsFloats .f32 w a1 z1.length z1.length z1) (hm : m < 4294967296) :
    Calls Try.prog 34 #[.slice a0 z0.length z0.length, .slice a1 z1.length z1.length, .float .f32 m] w (RetQ (vLossHuber z0 z1 m).1 (vLossHuber z0 z1 m).2.1 (vLossHuber z0 z1 m).2.2 w) := by
  have hm1 : z0.length ≤ 9223372036854775807 := by have := h0.2.1; unfold maxLen at this; exact this
  have hm2 : z1.length ≤ 9223372036854775807 := by have := h1.2.1; unfold maxLen at this; exact this
  have H0 := Lib.hid h0
  have H1 := Lib.hid h1
  obtain ⟨i0, hi, hz0, hz1, hz2⟩ := info_parts info_f32
  have HI := Lib.hid hi
  have HZ0 := Lib.hid hz0
  have HZ1 := Lib.hid hz1
  have HZ2 := Lib.hid hz2
  clear h0 h1 hi hz0 hz1 hz2
  cases hok : okBoth z0.length z1.length with
  | false =>
    have HX := Lib.hid (show vLossHuber z0 z1 m = (0, false, []) from vLoss_no hok)
    rw [HX.out]
    have HK := Lib.hid hok
    clear hok
    go_enter Try.func34, Try.ntmps34
    go_wp2_with (go_at_call 71; refine (c_l05Both _ _ _ _ _ _ _ hm1 hm2).mono ?_; rintro e w' ⟨rfl, rfl⟩; rw [HK.out])
    refine bodyPost_ret (v := .tuple #[.float .f32 0, .slice none 0 0, .bool false]) (by simp [results, Try.results34]) rfl ?_
    exact ⟨0, none, 0, [], by decide +kernel, rfl, nil_own _ _, rfl, Below.refl _ _⟩
  | true =>
    have HX := Lib.hid (show vLossHuber z0 z1 m = _ from vLoss_yes hok)
    rw [HX.out]
    obtain ⟨y1, y2, y3⟩ := okBoth_yes hok
    have HK := Lib.hid hok
    rw [← y3] at H1 hm2 HK ⊢
    obtain ⟨n, hn⟩ : ∃ n, z0.length = n := ⟨_, rfl⟩
    rw [hn] at H0 H1 y1 y2 hm1 hm2 HK ⊢
    clear hok hn y3 HX
    go_enter Try.func34, Try.ntmps34
    go_wp2_with (go_at_call 71; refine (c_l05Both _ _ _ _ _ _ _ hm1 hm2).mono ?_; rintro e w' ⟨rfl, rfl⟩; rw [HK.out])
    refine (c_l05Less _ _ _ _ _ z0 z1 _ H0.out H1.out y2).mono ?_
    rintro e w1 ⟨a, c, ds, rfl, ho, he, hb⟩
    have hdn : ds.length = n := by have := congrArg List.length he; simpa using this
    have HO := Lib.hid ho
    have HE := Lib.hid he
    have HB := Lib.hid hb
    have HDN := Lib.hid hdn
    have hd0 : ds.length ≤ 256 := by omega
    clear ho he hb hdn
    go_wp2_with fail
    go_loopw [11, 27] (fun s i wr => Mix (fun i => Ph m (gapOf z0 z1 i)) (fun i => cop .quo .f32 (Sh m (gapOf z0 z1 i)) (fN n)) ds a c w s i wr) (fun _ i _ => ds.length - (intOf i).toNat)
    case atStart => exact mix_first rfl HO.out HB.out
    case round =>
      obtain ⟨k, b, cp, ps, qs, hk, rfl, rfl, hp, hq, hmx⟩ := hrel
      have HP := Lib.hid hp
      have HQ := Lib.hid hq
      have HM := Lib.hid hmx
      have hk0 : (0 : Int) ≤ (k : Int) := by omega
      clear hp hq hmx HO HB
      by_cases hlt : k < ds.length
      · have hlt' : (k : Int) < (ds.length : Int) := by omega
        obtain ⟨g, rfl, hg, hg2⟩ := mix_lt HM.out hlt HQ.out
        obtain ⟨hc, hf⟩ := mix_cell HM.out hlt HQ.out
        have HC := Lib.hid (canon_getD HE.out (show k < n by rw [← HDN.out]; exact hlt))
        have hxl : ds.getD k 0 < 4294967296 := by
          have := HM.out.2.1.2 (ds.getD k 0) (by rw [← upd_at HQ.out]; unfold List.getD; rw [List.getElem?_eq_getElem (by rw [upd_length hk HQ.out]; exact hlt)]; exact List.getElem_mem _)
          exact this
        obtain ⟨x, hx⟩ : ∃ x, ds.getD k 0 = x := ⟨_, rfl⟩
        rw [hx] at hc HC hxl
        have HXX := Lib.hid hx
        have A1 := Lib.hid (show ps.length + 1 ≤ maxLen by have := HP.out; unfold maxLen; omega)
        have A2 := Lib.hid (show (ps.length + 1) * 4 ≤ 140737488355328 by have := HP.out; omega)
        have A3 := Lib.hid HM.out.2.2.2.2.2.size
        clear hx
        obtain ⟨q, hqq⟩ : ∃ q, cabs (canon .f32 x) = q := ⟨_, rfl⟩
        have HQQ := Lib.hid hqq
        have HD := Lib.hid (show cabs (gapOf z0 z1 k) = q by rw [← HC.out]; exact hqq)
        have HQC := Lib.hid (show canon .f32 q = q by rw [← hqq, cabs_canon])
        have HAB := Lib.hid (fun w => c_l05Abs x hxl w)
        rw [hqq] at HAB
        clear hqq
        cases h1 : tLe q m with
        | true =>
          have HS := Lib.hid (show Sh m (gapOf z0 z1 k) = gapOf z0 z1 k by unfold Sh; rw [HD.out, h1]; rfl)
          have HC1 := Lib.hid (show ∀ w1 w2, canon .f32 (fval .quo .f32 (fval .mul .f32 x x w1) 1073741824 w2) = (fun i => Ph m (gapOf z0 z1 i)) ps.length by intro w1 w2; rw [canon_fval, canon_fval, HC.out, canon_two, HP.out]; show _ = Ph m (gapOf z0 z1 k); unfold Ph; rw [HD.out, h1]; rfl)
          have h1' : (FloatKind.f32.format.order q m == some .lt || FloatKind.f32.format.order q m == some .eq) = true := h1
          clear h1
          go_wp2_with (go_at_call 75; refine (HAB.out _).mono ?_; rintro e w' ⟨rfl, rfl⟩)
          go_region_law (refine step_append_any _ rfl (.tmp 38) (.tmp 49) 30 rfl w.heap.size 22 i0 (.float .f32 0) 1 4 Try.underlying30 HI.out HZ0.out HZ1.out HZ2.out rfl Nat.one_pos (.slice b ps.length cp) ps.length (ps.map (Value.float .f32)) rfl (grow_own HM.out.1) (wr.heap.size + 1) (some ⟨wr.heap.size, 0, none⟩) 1 1 [.float .f32 _] rfl grow_reads (one_f32 _) A1.out A2.out (grow_base A3.out) ?_; intro v' w' hown hgr hat; obtain ⟨a', c', rfl⟩ := ownsRow_slice hown; have hm2 := mix_grown HM.out (fval_lt .quo .f32 _ _ _) (HC1.out _ _) hown hgr hat; have HM2 := Lib.hid hm2; obtain ⟨hc', hf'⟩ := mix_cell hm2 hlt HQ.out; rw [HXX.out] at hc'; clear hown hgr hat hm2)
          all_goals
            go_wp2_with fail
            go_roundw
            case rel => exact mix_set' HM2.out hlt HP.out HQ.out (below_drewN (Below.refl _ _) _) (fval_lt .quo .f32 _ _ _) (by rw [canon_fval, HC.out, HS.out, canon_fN])
            case measure => simp [intOf]; omega
        | false =>
          have HC1 := Lib.hid (show ∀ w1 w2 w3, canon .f32 (fval .mul .f32 m (fval .sub .f32 q (fval .quo .f32 m 1073741824 w1) w2) w3) = (fun i => Ph m (gapOf z0 z1 i)) ps.length by intro w1 w2 w3; rw [canon_fval, canon_fval, canon_fval, HQC.out, canon_two, HP.out]; show _ = Ph m (gapOf z0 z1 k); unfold Ph; rw [HD.out, h1]; rfl)
          have h1' : (FloatKind.f32.format.order q m == some .lt || FloatKind.f32.format.order q m == some .eq) = false := h1
          cases h2 : tGt x with
          | true =>
            have HS := Lib.hid (show Sh m (gapOf z0 z1 k) = canon .f32 m by unfold Sh; rw [HD.out, h1, ← HC.out, tGt_canon, h2]; rfl)
            have h2' : (FloatKind.f32.format.order x 0 == some .gt) = true := h2
            clear h1 h2
            go_wp2_with (first | (go_at_call 75; refine (HAB.out _).mono ?_; rintro e w' ⟨rfl, rfl⟩) | (at_builtin; refine wpList_append_any _ rfl (.tmp 60) (.tmp 67) 30 rfl w.heap.size 22 i0 (.float .f32 0) 1 4 Try.underlying30 HI.out HZ0.out HZ1.out HZ2.out rfl Nat.one_pos (.slice b ps.length cp) ps.length (ps.map (Value.float .f32)) rfl (grow_own HM.out.1) (wr.heap.size + 1) (some ⟨wr.heap.size, 0, none⟩) 1 1 [.float .f32 _] rfl grow_reads (one_f32 _) A1.out A2.out (grow_base A3.out) ?_; intro v' w' hown hgr hat; obtain ⟨a', c', rfl⟩ := ownsRow_slice hown; have hm2 := mix_grown HM.out (fval_lt .mul .f32 _ _ _) (HC1.out _ _ _) hown hgr hat; have HM2 := Lib.hid hm2; obtain ⟨hc', hf'⟩ := mix_cell hm2 hlt HQ.out; rw [HXX.out] at hc'; clear hown hgr hat hm2))
            go_roundw
            case rel => exact mix_set' HM2.out hlt HP.out HQ.out (below_drewN (Below.refl _ _) _) (fval_lt .quo .f32 _ _ _) (by rw [canon_fval, HS.out, canon_fN])
            case measure => simp [intOf]; omega
          | false =>
            have HS := Lib.hid (show Sh m (gapOf z0 z1 k) = canon .f32 (Op.negFloat .f32 m) by unfold Sh; rw [HD.out, h1, ← HC.out, tGt_canon, h2]; rfl)
            have h2' : (FloatKind.f32.format.order x 0 == some .gt) = false := h2
            clear h1 h2
            go_wp2_with (first | (go_at_call 75; refine (HAB.out _).mono ?_; rintro e w' ⟨rfl, rfl⟩) | (at_builtin; refine wpList_append_any _ rfl (.tmp 60) (.tmp 67) 30 rfl w.heap.size 22 i0 (.float .f32 0) 1 4 Try.underlying30 HI.out HZ0.out HZ1.out HZ2.out rfl Nat.one_pos (.slice b ps.length cp) ps.length (ps.map (Value.float .f32)) rfl (grow_own HM.out.1) (wr.heap.size + 1) (some ⟨wr.heap.size, 0, none⟩) 1 1 [.float .f32 _] rfl grow_reads (one_f32 _) A1.out A2.out (grow_base A3.out) ?_; intro v' w' hown hgr hat; obtain ⟨a', c', rfl⟩ := ownsRow_slice hown; have hm2 := mix_grown HM.out (fval_lt .mul .f32 _ _ _) (HC1.out _ _ _) hown hgr hat; have HM2 := Lib.hid hm2; obtain ⟨hc', hf'⟩ := mix_cell hm2 hlt HQ.out; rw [HXX.out] at hc'; clear hown hgr hat hm2))
            go_roundw
            case rel => exact mix_set' HM2.out hlt HP.out HQ.out (below_drewN (Below.refl _ _) _) (fval_lt .quo .f32 _ _ _) (by rw [canon_fval, HS.out, canon_fN])
            case measure => simp [intOf]; omega
      · obtain rfl : k = ds.length := by omega
        have HF1 := Lib.hid (show IsFloats .f32 wr b ps.length cp ps from HM.out.1.isFloats)
        go_wp2_with fail
        refine (c_l01Sum _ _ _ ps _ HF1.out).mono ?_
        rintro e w3 ⟨r, dm, hr, hr2, rfl, rfl⟩
        have HR := Lib.hid (show canon .f32 r = csum ((List.range n).map fun i => Ph m (gapOf z0 z1 i)) by rw [hr, ← HDN.out, ← HP.out]; exact csum_of HM.out.2.2.2.1)
        clear hr hr2
        go_wp2_with fail
        refine bodyPost_ret (v := .tuple #[.float .f32 _, .slice a ds.length c, .bool true]) (by simp [results, Try.results34]; rfl) rfl ?_
        refine ⟨fval .quo .f32 r (floatOfInt .f32 (n : Int)) (wr.drewN dm), a, c, qs, by rw [canon_fval, HR.out, canon_fN], by rw [HQ.out], ?_, by rw [HM.out.2.2.2.2.1, HDN.out], below_drewN HM.out.2.2.2.2.2 _⟩
        exact (upd_end HQ.out HM.out.2.1).drewN _
end Go.Proofs.Ytaklcmibpnpffaa
