/-
  Codes of numbers that chances choose: the same for the program and for its model. Conditions: the numbers can be read.
-/
import Derived.Test.YtgffcmmdmenefaaCof
namespace Go.Proofs.Ytgffcmmdmenefaa
open Go.RowKit Go.Deep Go.WideShapes Go.ChangeShapes
set_option linter.unusedVariables false
attribute [local go_sem] World.drewN_zero

theorem call_floor {x : Nat} (h : isNan .f64 x = false) (w : World) : (callFunc 94 #[.float .f64 x]).run Try.prog w = .ok (.value (.float .f64 (rteV .down x))) w := by
  rw [run_callFunc_extern Try.func94 (by kernel_rfl) (by kernel_rfl) (by kernel_rfl) (e := Extern.MathFloor.toIntegral "math.archFloor" .down) (by kernel_rfl), run_integral h]
  rfl
theorem c_floor (x : Nat) (h : isNan .f64 x = false) (w : World) : Calls Try.prog 63 #[.float .f64 x] w fun e w' => e = .returned (.float .f64 (rteV .down x)) ∧ w = w' := by
  have hr := fun w => call_floor h w
  clear h
  go_enter Try.func63, Try.ntmps63
  go_wp2
  go_ret
  exact ⟨rfl, rfl⟩
/-- more than the chance -/
def chT (q : Nat) (c : Int) : Bool := FloatKind.f64.format.order (cop .mul .f64 (cop .sub .f64 q (rteV .down q)) 4643211215818981376) (floatOfInt .f64 c) == some .gt
def chV (q : Nat) (c : Int) : Nat := if chT q c then cop .add .f64 (rteV .down q) 4607182418800017408 else rteV .down q
theorem canon_256 : canon .f64 4643211215818981376 = 4643211215818981376 := by decide +kernel
theorem chT_eq {q : Nat} (h : isNan .f64 q = false) (c : Int) (w1 w2 : World) : (FloatKind.f64.format.order (fval .mul .f64 (fval .sub .f64 q (rteV .down q) w1) 4643211215818981376 w2) (floatOfInt .f64 c) == some .gt) = chT q c := by
  unfold chT
  rw [order_fval_l, canon_fval, canon_256, canon_num h, canon_num (rte_num h)]
theorem sum_some {d : Ieee.Datum} {s : Bool} {m : Nat} {e : Int} (h : d.isNaN = false) : ∃ r, d.sum (.number s m e) = some r := by
  cases d with
  | number a b c => exact ⟨_, rfl⟩
  | infinity a => exact ⟨_, rfl⟩
  | nan a b => cases h
theorem read_one64 : Ieee.double.read 4607182418800017408 = .number false 4503599627370496 (-52) := by decide +kernel
theorem add_one {x : Nat} (h : isNan .f64 x = false) : (∀ w, fval .add .f64 x 4607182418800017408 w = cop .add .f64 x 4607182418800017408) ∧ fdr .add .f64 x 4607182418800017408 = 0 ∧ isNan .f64 (cop .add .f64 x 4607182418800017408) = false ∧ cop .add .f64 x 4607182418800017408 < 18446744073709551616 := by
  obtain ⟨d, hd⟩ := sum_some (s := false) (m := 4503599627370496) (e := -52) (show (Ieee.double.read x).isNaN = false from h)
  have hb : floatBits .add .f64 x 4607182418800017408 = some (Ieee.double.write d) := by
    show ((Ieee.double.read x).sum (Ieee.double.read 4607182418800017408)).map Ieee.double.write = _
    rw [read_one64, hd]; rfl
  have e : cop .add .f64 x 4607182418800017408 = Ieee.double.write d := by unfold cop; rw [hb]; rfl
  rw [e]
  exact ⟨fun w => fval_some w hb, by simp [fdr, hb], floatBits_num hb, FloatKind.f64.format.add_lt hb⟩
theorem chV_ok {q : Nat} (h : isNan .f64 q = false) (c : Int) : chV q c < 18446744073709551616 ∧ isNan .f64 (chV q c) = false := by
  unfold chV
  split
  · exact ⟨(add_one (rte_num h)).2.2.2, (add_one (rte_num h)).2.2.1⟩
  · exact ⟨rte_lt _ _, rte_num h⟩
def okCh (n : Int) : Bool := decide (0 ≤ n) && decide (n ≤ 255)
def rvB (z : List Nat) (s : Nat) (c : List Int) (k : Nat) : Nat := chV (vq (z.getD k 0) s) (c.getD k 0)
def okChs (z : List Nat) (c : List Int) : Bool := decide (c.length = z.length) && c.all okCh
def vCodesBy (z : List Nat) (s : Nat) (c : List Int) : Bool × List Int := if okChs z c = true then vCodes z s (rvB z s c) else (false, [])
theorem vCodesBy_len (z : List Nat) (s : Nat) (c : List Int) : (vCodesBy z s c).2.length ≤ 1048576 := by
  unfold vCodesBy vCodes
  split
  · split
    · rename_i h
      simp only [Bool.and_eq_true] at h
      have := okFin_few h.1
      simp; omega
    · simp
  · simp
theorem okCh_at {c : List Int} (h : c.all okCh = true) {k : Nat} (hk : k < c.length) : 0 ≤ c.getD k 0 ∧ c.getD k 0 ≤ 255 := by
  rw [List.all_eq_true] at h
  have := h (c.getD k 0) (by simp [List.getD, hk])
  simpa [okCh] using this
set_option maxHeartbeats 1000000 in
theorem x_choose (ac : Option Addr) (cc : Nat) (c : List Int) (k q : Nat) (h : isNan .f64 q = false) (hk : k < c.length) (w : World) (hc : IsRow .i64 w ac c.length cc c) : Calls Try.prog 66 (#[.slice ac c.length cc] ++ #[.int .i64 k, .float .f64 q]) w fun e w' => e = .returned (.float .f64 (chV q (c.getD k 0))) ∧ Drawn w w' := by
  show Calls Try.prog 66 #[.slice ac c.length cc, .int .i64 k, .float .f64 q] w _
  have hmax : c.length ≤ 9223372036854775807 := by have h1 := hc.1; have h2 := hc.2.1; unfold maxLen at h2; omega
  rcases hc.2.2.2.2 with h' | ⟨ab, off, rfl, hab, hcell⟩
  · omega
  have hx := hcell k hk
  have hk0 : (0 : Int) ≤ (k : Int) := by omega
  have hk1 : (k : Int) < (c.length : Int) := by omega
  obtain ⟨d, hd⟩ : ∃ d, c.getD k 0 = d := ⟨_, rfl⟩
  rw [hd] at hx ⊢
  have HFL := Lib.hid (fun w => c_floor q h w)
  have ht := chT_eq h d
  obtain ⟨a1, a2, _, _⟩ := add_one (rte_num (way := .down) h)
  cases hb : chT q d with
  | true =>
    have HV := Lib.hid (show chV q d = cop .add .f64 (rteV .down q) 4607182418800017408 by unfold chV; rw [if_pos hb])
    rw [HV.out]
    rw [hb] at ht
    obtain ⟨v, hv⟩ : ∃ v, rteV .down q = v := ⟨_, rfl⟩
    obtain ⟨u, hu⟩ : ∃ u, cop .add .f64 (rteV .down q) 4607182418800017408 = u := ⟨_, rfl⟩
    rw [hu]
    simp only [hu] at a1
    rw [hv] at a2 HFL
    simp only [hv] at ht a1
    clear hcell hc h hd hb hv hu HV
    go_enter Try.func66, Try.ntmps66
    go_wp2_with (go_at_call 63; refine (HFL.out _).mono ?_; rintro e w' ⟨rfl, rfl⟩)
    go_ret
    exact ⟨rfl, Drawn.mk _ _⟩
  | false =>
    have HV := Lib.hid (show chV q d = rteV .down q by unfold chV; rw [if_neg (by rw [hb]; decide)])
    rw [HV.out]
    rw [hb] at ht
    obtain ⟨v, hv⟩ : ∃ v, rteV .down q = v := ⟨_, rfl⟩
    rw [hv] at HFL ⊢
    simp only [hv] at ht
    clear hcell hc h hd hb hv HV a1 a2
    go_enter Try.func66, Try.ntmps66
    go_wp2_with (go_at_call 63; refine (HFL.out _).mono ?_; rintro e w' ⟨rfl, rfl⟩)
    go_ret
    exact ⟨rfl, Drawn.mk _ _⟩
theorem x_isChance (n : Int) (w : World) : Calls Try.prog 64 (#[.int .i64 n] ++ #[]) w fun e w' => e = .returned (.bool (okCh n)) ∧ w = w' := by
  show Calls Try.prog 64 #[.int .i64 n] w _
  by_cases h0 : 0 ≤ n
  · have h1 := Lib.hid (decide_eq_true h0)
    by_cases h2 : n ≤ 255
    · have h3 := Lib.hid (decide_eq_true h2)
      go_enter Try.func64, Try.ntmps64
      go_wp2
      go_ret
      exact ⟨ret_b (by unfold okCh; rw [h1.out, h3.out]; simp; omega), rfl⟩
    · have h3 := Lib.hid (decide_eq_false h2)
      have h4 : 256 ≤ n := by omega
      go_enter Try.func64, Try.ntmps64
      go_wp2
      go_ret
      exact ⟨ret_b (by unfold okCh; rw [h1.out, h3.out]; simp; omega), rfl⟩
  · have h1 := Lib.hid (decide_eq_false h0)
    go_enter Try.func64, Try.ntmps64
    go_wp2
    go_ret
    exact ⟨ret_b (by unfold okCh; rw [h1.out]; simp), rfl⟩
set_option maxHeartbeats 1000000 in
theorem t_iCodesBy (z : List Nat) (s : Nat) (c : List Int) (a0 a2 : Option Addr) (w : World) (h : IsFloats .f32 w a0 z.length z.length z) (h2 : IsRow .i64 w a2 c.length c.length c) (hs : s < 4294967296) : Calls Try.prog 34 #[.slice a0 z.length z.length, .float .f32 s, .slice a2 c.length c.length] w (RetI (vCodesBy z s c).1 (vCodesBy z s c).2 w) := by
  have hmax : z.length ≤ 9223372036854775807 := by have := h.2.1; unfold maxLen at this; exact this
  have hmax2 : c.length ≤ 9223372036854775807 := by have := h2.2.1; unfold maxLen at this; exact this
  have HA := Lib.hid (c_isAllI 64 okCh a2 _ _ c w h2 (enters_of Try.func64 (by kernel_rfl) (by kernel_rfl)) (fun x wr _ _ => x_isChance x wr))
  by_cases hl : c.length = z.length
  · cases ha : c.all okCh with
    | false =>
      have HX := Lib.hid (show vCodesBy z s c = (false, []) by unfold vCodesBy okChs; rw [if_neg (by rw [ha]; simp)])
      rw [HX.out]
      rw [ha] at HA
      rw [hl] at HA ⊢
      clear h h2 hl ha HX hmax2
      go_enter Try.func34, Try.ntmps34
      go_wp2_with fail
      refine HA.out.mono ?_
      rintro e w' ⟨rfl, hb⟩
      have HB := Lib.hid hb
      clear hb
      go_wp2_with fail
      go_ret2
      exact ⟨none, 0, [], rfl, nil_ownI _ _, rfl, HB.out⟩
    | true =>
      have HX := Lib.hid (show vCodesBy z s c = vCodes z s (rvB z s c) by unfold vCodesBy okChs; rw [if_pos (by rw [ha]; simp [hl])])
      rw [HX.out]
      rw [ha] at HA
      have HC := Lib.hid (fun (w1 : World) (hb : Below w.heap.size w w1) => c_codesBy 66 #[.slice a2 c.length c.length] (rvB z s c) z s a0 w1 (h.kept hb) hs (enters_of Try.func66 (by kernel_rfl) (by kernel_rfl))
        (fun hk hk2 hp k hlt => chV_ok (vq_at (okFin_at hk hlt) hp (spr_fin hk2).2).2.2.1 _)
        (fun hk hk2 hp k wr hlt hb2 => x_choose a2 c.length c k _ (vq_at (okFin_at hk hlt) hp (spr_fin hk2).2).2.2.1 (by rw [hl]; exact hlt) wr (isRow_kept h2 (hb.trans (hb2.mono hb.size)))))
      obtain ⟨b, l, hbl⟩ : ∃ b l, vCodes z s (rvB z s c) = (b, l) := ⟨_, _, rfl⟩
      rw [hbl] at HC ⊢
      rw [hl] at HA HC ⊢
      clear h h2 hbl hl ha HX hmax2
      go_enter Try.func34, Try.ntmps34
      go_wp2_with fail
      refine HA.out.mono ?_
      rintro e w1 ⟨rfl, hb⟩
      have HB := Lib.hid hb
      clear hb
      go_wp2_with fail
      refine (HC.out _ HB.out).mono ?_
      rintro e w' ⟨a, cp, ys, rfl, ho, rfl, hb⟩
      have HO := Lib.hid ho
      have HB2 := Lib.hid (Below.next HB.out hb)
      clear ho hb
      go_wp2_with fail
      go_ret2
      exact ⟨a, cp, ys, rfl, HO.out.base HB.out.size, rfl, HB2.out⟩
  · have HX := Lib.hid (show vCodesBy z s c = (false, []) by unfold vCodesBy okChs; rw [if_neg (by simp [hl])])
    have hne : ¬ (c.length : Int) = (z.length : Int) := by omega
    rw [HX.out]
    clear h h2 hl HX HA
    go_enter Try.func34, Try.ntmps34
    go_wp2_with fail
    go_ret2
    exact ⟨none, 0, [], rfl, nil_ownI _ _, rfl, Below.refl _ _⟩
end Go.Proofs.Ytgffcmmdmenefaa
