/-
  IsWhole: the program. Conditions: the numbers can be read.
-/
import Derived.Test.YtkpcjjnaocdelaaWht
namespace Go.Proofs.Ytkpcjjnaocdelaa
open Go.RowKit Ieee Go.Deep Go.WideShapes Go.ChangeShapes
set_option linter.unusedVariables false
set_option linter.unusedSimpArgs false

theorem lim_cases (v : Int) : (decide (1 ≤ v) && decide (v ≤ 1000)) = true ∨ (v ≤ 0 ∧ (decide (1 ≤ v) && decide (v ≤ 1000)) = false) ∨ (1 ≤ v ∧ 1001 ≤ v ∧ (decide (1 ≤ v) && decide (v ≤ 1000)) = false) := by
  by_cases h1 : 1 ≤ v
  · by_cases h2 : v ≤ 1000
    · exact .inl (by simp [h1, h2])
    · exact .inr (.inr ⟨h1, by omega, by simp [h2]⟩)
  · exact .inr (.inl ⟨by omega, by simp [h1]⟩)
set_option maxRecDepth 20000 in
set_option maxHeartbeats 2000000 in
theorem t_iIsWhole (k i o : Int) (ws bs : List Nat) (a b : Option Addr) (c d : Nat) (v : Int) (w : World) (h : IsFloats .f32 w a ws.length c ws ∧ IsFloats .f32 w b bs.length d bs) :
    Calls Try.prog 44 #[.agg #[.int .i64 k, .int .i64 i, .int .i64 o, .slice a ws.length c, .slice b bs.length d], .int .i64 v] w (RetB (vIsWhole k i o ws bs v) w) := by
  have al := (Below.refl w.heap.size w).alloc (Nat.le_refl _) (.cells #[.int .i64 k, .int .i64 i, .int .i64 o, .slice a ws.length c, .slice b bs.length d] 59)
  have al2 := al.alloc (by simp) (.cells #[.int .i64 v] 2)
  have K := Lib.hid ((Blk.new w 59 #[.int .i64 k, .int .i64 i, .int .i64 o, .slice a ws.length c, .slice b bs.length d]).below ((Below.refl _ _).alloc (Nat.le_refl _) (.cells #[.int .i64 v] 2)))
  have k2 := Blk.new (w.alloc (.cells #[.int .i64 k, .int .i64 i, .int .i64 o, .slice a ws.length c, .slice b bs.length d] 59)) 2 #[.int .i64 v]
  simp only [World.size_alloc] at k2
  have KV := Lib.hid k2
  have B := Lib.hid al2
  have H1 := Lib.hid (h.1.kept al2)
  have H2 := Lib.hid (h.2.kept al2)
  obtain ⟨u, hu⟩ : ∃ u, vLay k i o ws.length bs.length = u := ⟨_, rfl⟩
  have HU := Lib.hid hu
  obtain ⟨R, hR⟩ : ∃ R, vIsWhole k i o ws bs v = R := ⟨_, rfl⟩
  have HR := Lib.hid hR
  unfold vIsWhole at hR
  rw [hu] at hR
  rw [HR.out]
  rcases lim_cases v with hl | ⟨hv, hl⟩ | ⟨hv1, hv2, hl⟩
  case inr.inl =>
    rw [hl] at hR
    have hr : R = false := by rw [← hR]; simp
    subst hr
    clear al al2 h hu hR k2 hl HR
    go_enter Try.func44, Try.ntmps44
    go_wp2_with fail
    go_ret
    exact ⟨rfl, B.out⟩
  case inr.inr =>
    rw [hl] at hR
    have hr : R = false := by rw [← hR]; simp
    subst hr
    clear al al2 h hu hR k2 hl HR
    go_enter Try.func44, Try.ntmps44
    go_wp2_with fail
    go_ret
    exact ⟨rfl, B.out⟩
  case inl =>
    rw [hl, Bool.true_and] at hR
    rw [Bool.and_eq_true, decide_eq_true_eq, decide_eq_true_eq] at hl
    obtain ⟨most, rfl⟩ : ∃ most : Nat, v = (most : Int) := ⟨v.toNat, by omega⟩
    have hm1 : 1 ≤ most := by omega
    have hm2 : most ≤ 1000 := by omega
    have hi1 : (1 : Int) ≤ (most : Int) := by omega
    have hi2 : (most : Int) ≤ 1000 := by omega
    have HRR := Lib.hid (show (u && (ws.all (wholeF most) && bs.all (wholeF most))) = R from hR)
    have HF := Lib.hid (fun (W : World) (K : Blk W (w.heap.size + 1) 2 #[.int .i64 (most : Int)]) (x : Nat) (wr : World) (hx : x < 4294967296) (hb : Below W.heap.size W wr) => c_isWhole1 x most (w.heap.size + 1) hm1 hm2 hx wr ((K.below hb).cell 0))
    clear al al2 h hu hR k2 hl HR hm1 hm2
    go_enter Try.func44, Try.ntmps44
    go_wp2_with fail
    generalize (w.alloc (.cells #[.int .i64 k, .int .i64 i, .int .i64 o, .slice a ws.length c, .slice b bs.length d] 59)).alloc (.cells #[.int .i64 (most : Int)] 2) = w1 at K KV B H1 H2 ⊢
    refine (c_iValidLayer k i o a b ws.length bs.length c d u HU.out w1).mono ?_
    rintro e w2 ⟨rfl, bl⟩
    have B2 := Lib.hid (Below.next B.out bl)
    have K2 := Lib.hid (K.out.below bl)
    have KV2 := Lib.hid (KV.out.below bl)
    have H12 := Lib.hid (H1.out.kept bl)
    have H22 := Lib.hid (H2.out.kept bl)
    clear bl
    obtain ⟨s0, s1, s2, s3, s4, sl⟩ := tb5 K2.out
    cases u with
    | false =>
      have hr : R = false := by rw [← HRR.out]; rfl
      subst hr
      go_wp2_with fail
      go_ret
      exact ⟨rfl, B2.out⟩
    | true =>
      go_wp2_with fail
      refine (c_isAllFD 88 #[.pointer (some ⟨w.heap.size + 1, 0, none⟩)] (wholeF most) a ws.length c ws w2 H12.out (enters_of Try.func88 (by kernel_rfl) (by kernel_rfl)) (HF.out w2 KV2.out)).mono ?_
      rintro e w3 ⟨rfl, bl⟩
      have B3 := Lib.hid (Below.next B2.out bl)
      have K3 := Lib.hid (K2.out.below bl)
      have KV3 := Lib.hid (KV2.out.below bl)
      have H23 := Lib.hid (H22.out.kept bl)
      clear bl s0 s1 s2 s3 s4 sl
      obtain ⟨s0, s1, s2, s3, s4, sl⟩ := tb5 K3.out
      cases hw : ws.all (wholeF most) with
      | false =>
        have hr : R = false := by rw [← HRR.out, hw]; rfl
        subst hr
        clear hw
        go_wp2_with fail
        go_ret
        exact ⟨rfl, B3.out⟩
      | true =>
        have hr : R = bs.all (wholeF most) := by rw [← HRR.out, hw]; rfl
        have HR3 := Lib.hid hr
        clear hw hr
        go_wp2_with fail
        refine (c_isAllFD 88 #[.pointer (some ⟨w.heap.size + 1, 0, none⟩)] (wholeF most) b bs.length d bs w3 H23.out (enters_of Try.func88 (by kernel_rfl) (by kernel_rfl)) (HF.out w3 KV3.out)).mono ?_
        rintro e w4 ⟨rfl, bl⟩
        have B4 := Lib.hid (Below.next B3.out bl)
        clear bl s0 s1 s2 s3 s4 sl
        go_wp2_with fail
        go_ret
        exact ⟨ret_b HR3.out.symm, B4.out⟩
end Go.Proofs.Ytkpcjjnaocdelaa
