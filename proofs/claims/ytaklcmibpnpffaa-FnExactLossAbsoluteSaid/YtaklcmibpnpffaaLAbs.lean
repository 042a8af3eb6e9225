/-
  The loss of absolute values: the same for the program and for its model. Conditions: the numbers can be read.
-/
import Derived.Test.YtaklcmibpnpffaaMix
namespace Go.Proofs.Ytaklcmibpnpffaa
open Go.RowKit Go.Deep Go.WideShapes Go.ChangeShapes
set_option linter.unusedVariables false

def tGt (x : Nat) : Bool := FloatKind.f32.format.order x 0 == some .gt
def tLt (x : Nat) : Bool := FloatKind.f32.format.order x 0 == some .lt
def tEq (x : Nat) : Bool := FloatKind.f32.format.order x 0 == some .eq
theorem canon_z : canon .f32 0 = 0 := by decide +kernel
theorem tGt_canon (x : Nat) : tGt (canon .f32 x) = tGt x := by unfold tGt; conv => lhs; rw [← canon_z, order_canon]
theorem tLt_canon (x : Nat) : tLt (canon .f32 x) = tLt x := by unfold tLt; conv => lhs; rw [← canon_z, order_canon]
theorem tEq_canon (x : Nat) : tEq (canon .f32 x) = tEq x := by unfold tEq; conv => lhs; rw [← canon_z, order_canon]
theorem gt_not_lt {x : Nat} (h : tGt x = true) : tLt x = false ∧ tEq x = false := by
  have e : FloatKind.f32.format.order x 0 = some .gt := by simpa [tGt] using h
  constructor <;> simp [tLt, tEq, e]
theorem lt_not {x : Nat} (h : tLt x = true) : tGt x = false ∧ tEq x = false := by
  have e : FloatKind.f32.format.order x 0 = some .lt := by simpa [tLt] using h
  constructor <;> simp [tGt, tEq, e]
/-- neither more nor less than 0: 0, or none -/
theorem rest_eq {x : Nat} (hx : x < 4294967296) (h1 : tGt x = false) (h2 : tLt x = false) : tEq x = !isNan .f32 x := by
  cases hn : isNan .f32 x with
  | true => unfold tEq; rw [order_isNan_l _ hn]; rfl
  | false =>
    have h := order_zero hx hn
    by_cases e : x % 2147483648 = 0
    · unfold tEq; rw [h, if_pos e]; rfl
    · by_cases e2 : x < 2147483648
      · rw [if_neg e, if_pos e2] at h; simp [tGt, h] at h1
      · rw [if_neg e, if_neg e2] at h; simp [tLt, h] at h2
def Sab (d : Nat) : Nat := if tGt d = true then 1065353216 else if tLt d = true then 3212836864 else if isNan .f32 d = true then qnan .f32 else 0
def vLossAbsolute (z0 z1 : List Nat) : Nat × Bool × List Nat := vLoss cabs Sab z0 z1
theorem vLossAbsolute_len (z0 z1 : List Nat) : (vLossAbsolute z0 z1).2.2.length ≤ 1048576 := vLoss_len _ _ _ _
theorem zero_quo_all : ∀ n : Nat, n < 257 → 1 ≤ n → cop .quo .f32 0 (floatOfInt .f32 (n : Int)) = 0 := by decide +kernel
theorem zero_quo {n : Nat} (h1 : 1 ≤ n) (h2 : n ≤ 256) : cop .quo .f32 0 (fN n) = 0 := zero_quo_all n (by omega) h1
theorem nan_quo (n : Nat) : cop .quo .f32 (qnan .f32) n = qnan .f32 := by unfold cop; rw [floatBits_nan_l _ _ (isNan_qnan .f32)]; rfl
theorem x_absoluteRule (x : Nat) (hx : x < 4294967296) (w : World) : Calls Try.prog 77 (#[.float .f32 x] ++ #[]) w (RetP (cabs (canon .f32 x)) (Sab (canon .f32 x)) w) := by
  show Calls Try.prog 77 #[.float .f32 x] w _
  have HA := Lib.hid (canon_abs x)
  have hxl : x % 2147483648 < 2 ^ 32 := by omega
  have HXL := Lib.hid hxl
  have HXX := Lib.hid (show x < 2 ^ 32 from hx)
  cases h1 : tGt x with
  | true =>
    have HS := Lib.hid (show Sab (canon .f32 x) = 1065353216 by unfold Sab; rw [tGt_canon, h1]; rfl)
    have h1' : (FloatKind.f32.format.order x 0 == some .gt) = true := h1
    clear h1 hxl
    go_enter Try.func77, Try.ntmps77
    go_wp2_with (first | (go_at_call 106; refine (c_absolute _ hx _).mono ?_; rintro e w' ⟨rfl, rfl⟩) | go_in)
    go_ret2
    exact ⟨_, _, rfl, HA.out, by rw [HS.out]; decide +kernel, HXL.out, by decide, Below.refl _ _⟩
  | false =>
    have h1' : (FloatKind.f32.format.order x 0 == some .gt) = false := h1
    cases h2 : tLt x with
    | true =>
      have HS := Lib.hid (show Sab (canon .f32 x) = 3212836864 by unfold Sab; rw [tGt_canon, h1, tLt_canon, h2]; rfl)
      have h2' : (FloatKind.f32.format.order x 0 == some .lt) = true := h2
      clear h1 h2 hxl
      go_enter Try.func77, Try.ntmps77
      go_wp2_with (first | (go_at_call 106; refine (c_absolute _ hx _).mono ?_; rintro e w' ⟨rfl, rfl⟩) | go_in)
      go_ret2
      exact ⟨_, _, rfl, HA.out, by rw [HS.out]; decide +kernel, HXL.out, by decide, Below.refl _ _⟩
    | false =>
      have h2' : (FloatKind.f32.format.order x 0 == some .lt) = false := h2
      have hb := b_clear x hx
      by_cases hn : 2139095040 < x % 2147483648
      · have hnn : isNan .f32 x = true := by rw [isNan32]; simpa using hn
        have HS := Lib.hid (show Sab (canon .f32 x) = qnan .f32 by unfold Sab; rw [tGt_canon, h1, tLt_canon, h2, isNan_canon, hnn]; rfl)
        have HC := Lib.hid (canon_nan hnn)
        clear h1 h2 hxl hnn
        go_enter Try.func77, Try.ntmps77
        go_wp2_with (first | (go_at_call 106; refine (c_absolute _ hx _).mono ?_; rintro e w' ⟨rfl, rfl⟩) | go_in)
        go_ret2
        exact ⟨_, _, rfl, HA.out, by rw [HS.out, HC.out], HXL.out, HXX.out, Below.refl _ _⟩
      · have hnn : isNan .f32 x = false := by rw [isNan32]; simpa using hn
        have HS := Lib.hid (show Sab (canon .f32 x) = 0 by unfold Sab; rw [tGt_canon, h1, tLt_canon, h2, isNan_canon, hnn]; rfl)
        clear h1 h2 hxl hnn
        go_enter Try.func77, Try.ntmps77
        go_wp2_with (first | (go_at_call 106; refine (c_absolute _ hx _).mono ?_; rintro e w' ⟨rfl, rfl⟩) | go_in)
        go_ret2
        exact ⟨_, _, rfl, HA.out, by rw [HS.out]; decide +kernel, HXL.out, by decide, Below.refl _ _⟩
theorem t_iLossAbsolute (z0 z1 : List Nat) (a0 a1 : Option Addr) (w : World) (h0 : IsFloats .f32 w a0 z0.length z0.length z0) (h1 : IsFloats .f32 w a1 z1.length z1.length z1) :
    Calls Try.prog 33 #[.slice a0 z0.length z0.length, .slice a1 z1.length z1.length] w (RetQ (vLossAbsolute z0 z1).1 (vLossAbsolute z0 z1).2.1 (vLossAbsolute z0 z1).2.2 w) := by
  have H0 := Lib.hid h0
  have H1 := Lib.hid h1
  clear h0 h1
  go_enter Try.func33, Try.ntmps33
  go_wp2_with fail
  refine (c_lossBy 77 #[] cabs Sab _ _ _ _ z0 z1 _ H0.out H1.out (enters_of Try.func77 (by kernel_rfl) (by kernel_rfl)) (fun x wr hx _ => x_absoluteRule x hx wr)).mono ?_
  rintro e w' ⟨r, a, c, ys, hr, rfl, ho, he, hb⟩
  have HR := Lib.hid hr
  have HO := Lib.hid ho
  have HE := Lib.hid he
  have HB := Lib.hid hb
  clear hr ho he hb
  go_wp2_with fail
  refine bodyPost_ret (v := .tuple #[.float .f32 r, .slice a ys.length c, .bool (vLossAbsolute z0 z1).2.1]) (by simp [results, Try.results33]; rfl) rfl ?_
  exact ⟨r, a, c, ys, HR.out, rfl, HO.out, HE.out, HB.out⟩
set_option maxRecDepth 20000 in
set_option maxHeartbeats 4000000 in
theorem t_sLossAbsolute (z0 z1 : List Nat) (a0 a1 : Option Addr) (w : World) (h0 : IsFloats .f32 w a0 z0.length z0.length z0) (h1 : IsFloats .f32 w a1 z1.length z1.length z1) :
    Calls Try.prog 32 #[.slice a0 z0.length z0.length, .slice a1 z1.length z1.length] w (RetQ (vLossAbsolute z0 z1).1 (vLossAbsolute z0 z1).2.1 (vLossAbsolute z0 z1).2.2 w) := by
  have hm1 : z0.length ≤ 9223372036854775807 := by have := h0.2.1; unfold maxLen at this; exact this
  have hm2 : z1.length ≤ 9223372036854775807 := by have := h1.2.1; unfold maxLen at this; exact this
  have H0 := Lib.hid h0
  have H1 := Lib.hid h1
  obtain ⟨i0, hi, hz0, hz1, hz2⟩ := info_parts info_f32
  have HI := Lib.hid hi
  have HZ0 := Lib.hid hz0
  have HZ1 := Lib.hid hz1
  have HZ2 := Lib.hid hz2
  clear h0 h1 hi hz0 hz1 hz2
  cases hok : okBoth z0.length z1.length with
  | false =>
    have HX := Lib.hid (show vLossAbsolute z0 z1 = (0, false, []) from vLoss_no hok)
    rw [HX.out]
    have HK := Lib.hid hok
    clear hok
    go_enter Try.func32, Try.ntmps32
    go_wp2_with (go_at_call 71; refine (c_l05Both _ _ _ _ _ _ _ hm1 hm2).mono ?_; rintro e w' ⟨rfl, rfl⟩; rw [HK.out])
    refine bodyPost_ret (v := .tuple #[.float .f32 0, .slice none 0 0, .bool false]) (by simp [results, Try.results32]) rfl ?_
    exact ⟨0, none, 0, [], by decide +kernel, rfl, nil_own _ _, rfl, Below.refl _ _⟩
  | true =>
    have HX := Lib.hid (show vLossAbsolute z0 z1 = _ from vLoss_yes hok)
    rw [HX.out]
    obtain ⟨y1, y2, y3⟩ := okBoth_yes hok
    have HK := Lib.hid hok
    rw [← y3] at H1 hm2 HK ⊢
    obtain ⟨n, hn⟩ : ∃ n, z0.length = n := ⟨_, rfl⟩
    rw [hn] at H0 H1 y1 y2 hm1 hm2 HK ⊢
    clear hok hn y3 HX
    go_enter Try.func32, Try.ntmps32
    go_wp2_with (go_at_call 71; refine (c_l05Both _ _ _ _ _ _ _ hm1 hm2).mono ?_; rintro e w' ⟨rfl, rfl⟩; rw [HK.out])
    refine (c_l05Less _ _ _ _ _ z0 z1 _ H0.out H1.out y2).mono ?_
    rintro e w1 ⟨a, c, ds, rfl, ho, he, hb⟩
    have hdn : ds.length = n := by have := congrArg List.length he; simpa using this
    have HO := Lib.hid ho
    have HE := Lib.hid he
    have HB := Lib.hid hb
    have HDN := Lib.hid hdn
    have hd0 : ds.length ≤ 256 := by omega
    clear ho he hb hdn
    go_wp2_with fail
    go_loopw [9, 24] (fun s i wr => Mix (fun i => cabs (gapOf z0 z1 i)) (fun i => cop .quo .f32 (Sab (gapOf z0 z1 i)) (fN n)) ds a c w s i wr) (fun _ i _ => ds.length - (intOf i).toNat)
    case atStart => exact mix_first rfl HO.out HB.out
    case round =>
      obtain ⟨k, b, cp, ps, qs, hk, rfl, rfl, hp, hq, hmx⟩ := hrel
      have HP := Lib.hid hp
      have HQ := Lib.hid hq
      have HM := Lib.hid hmx
      have hk0 : (0 : Int) ≤ (k : Int) := by omega
      clear hp hq hmx HO HB
      by_cases hlt : k < ds.length
      · have hlt' : (k : Int) < (ds.length : Int) := by omega
        obtain ⟨g, rfl, hg, hg2⟩ := mix_lt HM.out hlt HQ.out
        obtain ⟨hc, hf⟩ := mix_cell HM.out hlt HQ.out
        have HC := Lib.hid (canon_getD HE.out (show k < n by rw [← HDN.out]; exact hlt))
        have hxl : ds.getD k 0 < 4294967296 := by
          have := HM.out.2.1.2 (ds.getD k 0) (by rw [← upd_at HQ.out]; unfold List.getD; rw [List.getElem?_eq_getElem (by rw [upd_length hk HQ.out]; exact hlt)]; exact List.getElem_mem _)
          exact this
        obtain ⟨x, hx⟩ : ∃ x, ds.getD k 0 = x := ⟨_, rfl⟩
        rw [hx] at hc HC hxl
        have HXX := Lib.hid hx
        have A1 := Lib.hid (show ps.length + 1 ≤ maxLen by have := HP.out; unfold maxLen; omega)
        have A2 := Lib.hid (show (ps.length + 1) * 4 ≤ 140737488355328 by have := HP.out; omega)
        have A3 := Lib.hid HM.out.2.2.2.2.2.size
        clear hx
        have HC1 := Lib.hid (show canon .f32 (cabs (canon .f32 x)) = (fun i => cabs (gapOf z0 z1 i)) ps.length by rw [cabs_canon, HP.out, HC.out])
        cases h1 : tGt x with
        | true =>
          have HS := Lib.hid (show Sab (gapOf z0 z1 k) = 1065353216 by rw [← HC.out]; unfold Sab; rw [tGt_canon, h1]; rfl)
          have h1' : (FloatKind.f32.format.order x 0 == some .gt) = true := h1
          clear h1
          go_wp2_with (first | (go_at_call 75; refine (c_l05Abs x hxl _).mono ?_; rintro e w' ⟨rfl, rfl⟩) | (at_builtin; refine wpList_append_any _ rfl (.tmp 27) (.tmp 33) 30 rfl w.heap.size 22 i0 (.float .f32 0) 1 4 Try.underlying30 HI.out HZ0.out HZ1.out HZ2.out rfl Nat.one_pos (.slice b ps.length cp) ps.length (ps.map (Value.float .f32)) rfl (grow_own0 HM.out.1) (wr.heap.size + 1) (some ⟨wr.heap.size, 0, none⟩) 1 1 [.float .f32 (cabs (canon .f32 x))] rfl grow_reads0 (one_f32 _) A1.out A2.out (grow_base0 A3.out) ?_; intro v' w' hown hgr hat; obtain ⟨a', c', rfl⟩ := ownsRow_slice hown; have hm2 := mix_grown0 HM.out (cabs_lt _) HC1.out hown hgr hat; have HM2 := Lib.hid hm2; obtain ⟨hc', hf'⟩ := mix_cell hm2 hlt HQ.out; rw [HXX.out] at hc'; clear hown hgr hat hm2))
          go_roundw
          case rel => exact mix_set' HM2.out hlt HP.out HQ.out (below_drewN (Below.refl _ _) _) (fval_lt .quo .f32 _ _ _) (by rw [canon_fval, HS.out, canon_fN]; congr 1)
          case measure => simp [intOf]; omega
        | false =>
          have h1' : (FloatKind.f32.format.order x 0 == some .gt) = false := h1
          cases h2 : tLt x with
          | true =>
            have HS := Lib.hid (show Sab (gapOf z0 z1 k) = 3212836864 by rw [← HC.out]; unfold Sab; rw [tGt_canon, h1, tLt_canon, h2]; rfl)
            have h2' : (FloatKind.f32.format.order x 0 == some .lt) = true := h2
            clear h1 h2
            go_wp2_with (first | (go_at_call 75; refine (c_l05Abs x hxl _).mono ?_; rintro e w' ⟨rfl, rfl⟩) | (at_builtin; refine wpList_append_any _ rfl (.tmp 27) (.tmp 33) 30 rfl w.heap.size 22 i0 (.float .f32 0) 1 4 Try.underlying30 HI.out HZ0.out HZ1.out HZ2.out rfl Nat.one_pos (.slice b ps.length cp) ps.length (ps.map (Value.float .f32)) rfl (grow_own0 HM.out.1) (wr.heap.size + 1) (some ⟨wr.heap.size, 0, none⟩) 1 1 [.float .f32 (cabs (canon .f32 x))] rfl grow_reads0 (one_f32 _) A1.out A2.out (grow_base0 A3.out) ?_; intro v' w' hown hgr hat; obtain ⟨a', c', rfl⟩ := ownsRow_slice hown; have hm2 := mix_grown0 HM.out (cabs_lt _) HC1.out hown hgr hat; have HM2 := Lib.hid hm2; obtain ⟨hc', hf'⟩ := mix_cell hm2 hlt HQ.out; rw [HXX.out] at hc'; clear hown hgr hat hm2))
            go_roundw
            case rel => exact mix_set' HM2.out hlt HP.out HQ.out (below_drewN (Below.refl _ _) _) (fval_lt .quo .f32 _ _ _) (by rw [canon_fval, HS.out, canon_fN]; congr 1)
            case measure => simp [intOf]; omega
          | false =>
            have h2' : (FloatKind.f32.format.order x 0 == some .lt) = false := h2
            have h3 := rest_eq hxl h1 h2
            cases hn : isNan .f32 x with
            | true =>
              have h3' : (FloatKind.f32.format.order x 0 == some .eq) = false := by rw [hn] at h3; exact h3
              have HS := Lib.hid (show canon .f32 (ds.getD k 0) = cop .quo .f32 (Sab (gapOf z0 z1 k)) (fN n) by rw [HXX.out, ← HC.out]; unfold Sab; rw [tGt_canon, h1, tLt_canon, h2, isNan_canon, hn]; rw [if_neg (by decide), if_neg (by decide), if_pos rfl, nan_quo]; exact canon_nan hn)
              clear h1 h2 h3 hn
              go_wp2_with (first | (go_at_call 75; refine (c_l05Abs x hxl _).mono ?_; rintro e w' ⟨rfl, rfl⟩) | (at_builtin; refine wpList_append_any _ rfl (.tmp 27) (.tmp 33) 30 rfl w.heap.size 22 i0 (.float .f32 0) 1 4 Try.underlying30 HI.out HZ0.out HZ1.out HZ2.out rfl Nat.one_pos (.slice b ps.length cp) ps.length (ps.map (Value.float .f32)) rfl (grow_own0 HM.out.1) (wr.heap.size + 1) (some ⟨wr.heap.size, 0, none⟩) 1 1 [.float .f32 (cabs (canon .f32 x))] rfl grow_reads0 (one_f32 _) A1.out A2.out (grow_base0 A3.out) ?_; intro v' w' hown hgr hat; obtain ⟨a', c', rfl⟩ := ownsRow_slice hown; have hm2 := mix_grown0 HM.out (cabs_lt _) HC1.out hown hgr hat; have HM2 := Lib.hid hm2; obtain ⟨hc', hf'⟩ := mix_cell hm2 hlt HQ.out; rw [HXX.out] at hc'; clear hown hgr hat hm2))
              go_roundw
              case rel => exact mix_stay' HM2.out hlt HP.out HQ.out HS.out
              case measure => simp [intOf]; omega
            | false =>
              have h3' : (FloatKind.f32.format.order x 0 == some .eq) = true := by rw [hn] at h3; exact h3
              have HS := Lib.hid (show canon .f32 0 = cop .quo .f32 (Sab (gapOf z0 z1 k)) (fN n) by rw [← HC.out]; unfold Sab; rw [tGt_canon, h1, tLt_canon, h2, isNan_canon, hn]; rw [if_neg (by decide), if_neg (by decide), if_neg (by decide), zero_quo y1 y2]; exact canon_zero)
              clear h1 h2 h3 hn
              go_wp2_with (first | (go_at_call 75; refine (c_l05Abs x hxl _).mono ?_; rintro e w' ⟨rfl, rfl⟩) | (at_builtin; refine wpList_append_any _ rfl (.tmp 27) (.tmp 33) 30 rfl w.heap.size 22 i0 (.float .f32 0) 1 4 Try.underlying30 HI.out HZ0.out HZ1.out HZ2.out rfl Nat.one_pos (.slice b ps.length cp) ps.length (ps.map (Value.float .f32)) rfl (grow_own0 HM.out.1) (wr.heap.size + 1) (some ⟨wr.heap.size, 0, none⟩) 1 1 [.float .f32 (cabs (canon .f32 x))] rfl grow_reads0 (one_f32 _) A1.out A2.out (grow_base0 A3.out) ?_; intro v' w' hown hgr hat; obtain ⟨a', c', rfl⟩ := ownsRow_slice hown; have hm2 := mix_grown0 HM.out (cabs_lt _) HC1.out hown hgr hat; have HM2 := Lib.hid hm2; obtain ⟨hc', hf'⟩ := mix_cell hm2 hlt HQ.out; rw [HXX.out] at hc'; clear hown hgr hat hm2))
              go_roundw
              case rel => exact mix_set' HM2.out hlt HP.out HQ.out (Below.refl _ _) (by decide) HS.out
              case measure => simp [intOf]; omega
      · obtain rfl : k = ds.length := by omega
        have HF1 := Lib.hid (show IsFloats .f32 wr b ps.length cp ps from HM.out.1.isFloats)
        go_wp2_with fail
        refine (c_l01Sum _ _ _ ps _ HF1.out).mono ?_
        rintro e w3 ⟨r, m, hr, hr2, rfl, rfl⟩
        have HR := Lib.hid (show canon .f32 r = csum ((List.range n).map fun i => cabs (gapOf z0 z1 i)) by rw [hr, ← HDN.out, ← HP.out]; exact csum_of HM.out.2.2.2.1)
        clear hr hr2
        go_wp2_with fail
        refine bodyPost_ret (v := .tuple #[.float .f32 _, .slice a ds.length c, .bool true]) (by simp [results, Try.results32]; rfl) rfl ?_
        refine ⟨fval .quo .f32 r (floatOfInt .f32 (n : Int)) (wr.drewN m), a, c, qs, by rw [canon_fval, HR.out, canon_fN], by rw [HQ.out], ?_, by rw [HM.out.2.2.2.2.1, HDN.out], below_drewN HM.out.2.2.2.2.2 _⟩
        exact (upd_end HQ.out HM.out.2.1).drewN _
end Go.Proofs.Ytaklcmibpnpffaa
