/-
  RunLayer, as the program answers. Conditions: the numbers can be read.
-/
import Derived.Test.YtnkmgeiehhonkaaRnr
namespace Go.Proofs.Ytnkmgeiehhonkaa
open Go.RowKit Go.Deep Go.WideShapes Go.ChangeShapes
set_option linter.unusedVariables false
set_option linter.unusedSimpArgs false

theorem lay_nat {k i o : Int} {n m : Nat} (h : vLay k i o n m = true) : ∃ i' o' : Nat, i = i' ∧ o = o' ∧ (1 ≤ i' ∧ i' ≤ 8) ∧ (1 ≤ o' ∧ o' ≤ 8) ∧ (k = 0 ∧ n = o' * i' ∧ m = o' ∨ k = 1 ∧ o' = i' ∨ k = 2 ∧ o' = i' ∧ n = i' ∨ k = 3 ∧ o' = i' ∨ k = 4 ∧ o' = i' ∨ k = 5 ∧ o' = i' ∧ n = i' ∧ m = i') := by
  obtain ⟨h1, h2, h3, h4, h5, h6⟩ := (vLay_iff _ _ _ _ _).1 h
  refine ⟨i.toNat, o.toNat, by omega, by omega, by omega, by omega, ?_⟩
  unfold countsOf at h5 h6
  by_cases k0 : k = 0
  · rw [if_pos k0] at h5 h6
    dsimp only at h5 h6
    refine .inl ⟨k0, ?_, by omega⟩
    have e1 : ((o.toNat * i.toNat : Nat) : Int) = o * i := by
      rw [Int.natCast_mul, Int.toNat_of_nonneg (by omega), Int.toNat_of_nonneg (by omega)]
    omega
  · have hio : i = o := by omega
    rw [if_neg k0] at h5 h6
    by_cases k2 : k = 2
    · rw [if_pos k2] at h5 h6; dsimp only at h5 h6
      exact .inr (.inr (.inl ⟨k2, by omega, by omega⟩))
    · rw [if_neg k2] at h5 h6
      by_cases k5 : k = 5
      · rw [if_pos k5] at h5 h6; dsimp only at h5 h6
        exact .inr (.inr (.inr (.inr (.inr ⟨k5, by omega, by omega, by omega⟩))))
      · have : k = 1 ∨ k = 3 ∨ k = 4 := by omega
        rcases this with rfl | rfl | rfl
        · exact .inr (.inl ⟨rfl, by omega⟩)
        · exact .inr (.inr (.inr (.inl ⟨rfl, by omega⟩)))
        · exact .inr (.inr (.inr (.inr (.inl ⟨rfl, by omega⟩))))
theorem c_runnerOf (k : Int) (i o : Nat) (a b : Option Addr) (c d : Nat) (ws bs : List Nat) (w : World) (hv : vLay k i o ws.length bs.length = true) (h : IsFloats .f32 w a ws.length c ws) (h' : IsFloats .f32 w b bs.length d bs) :
    Calls Try.prog 122 #[.agg #[.int .i64 k, .int .i64 i, .int .i64 o, .slice a ws.length c, .slice b bs.length d]] w (RetRun k i o ws bs w) := by
  obtain ⟨i', o', hi', ho', h1, h2, hk⟩ := lay_nat hv
  obtain rfl : i = i' := by omega
  obtain rfl : o = o' := by omega
  rcases hk with ⟨rfl, hn, hm⟩ | ⟨rfl, ho⟩ | ⟨rfl, ho, hn⟩ | ⟨rfl, ho⟩ | ⟨rfl, ho⟩ | ⟨rfl, ho, hn, hm⟩
  · exact c_runner0 i o a b c d ws bs w h1 h2 hn hm h h'
  · exact c_runner1 i o a b c d ws bs w h1 trivial trivial h h'
  · exact c_runner2 i o a b c d ws bs w h1 hn trivial h h'
  · exact c_runner3 i o a b c d ws bs w h1 trivial trivial h h'
  · exact c_runner4 i o a b c d ws bs w h1 trivial trivial h h'
  · exact c_runner5 i o a b c d ws bs w h1 hn hm h h'
theorem runV_len {k : Int} {i o : Nat} {ws bs z : List Nat} (hv : vLay k i o ws.length bs.length = true) (hz : z.length = i) : (runV k i o ws bs z).length = o := by
  refine runV_length k i o ws bs z fun hk => ?_
  obtain ⟨h1, h2, h3, h4, h5, h6⟩ := (vLay_iff _ _ _ _ _).1 hv
  omega
theorem vRunLayer_yes {k : Int} {i o : Nat} {ws bs z : List Nat} (h : vLay k i o ws.length bs.length = true) (hz : z.length = i) : vRunLayer k i o ws bs z = (true, runV k i o ws bs z) := by
  unfold vRunLayer
  rw [if_pos ⟨h, by omega⟩]
  rfl
theorem vRunLayer_no {k i o : Int} {ws bs z : List Nat} (h : vLay k i o ws.length bs.length = false ∨ ¬ (z.length : Int) = i) : vRunLayer k i o ws bs z = (false, []) := by
  unfold vRunLayer
  refine if_neg ?_
  rcases h with h | h
  · rw [h]; simp
  · exact fun x => h x.2
theorem vRunLayer_len (k i o : Int) (ws bs z : List Nat) : (vRunLayer k i o ws bs z).2.length ≤ 1048576 := by
  unfold vRunLayer
  split
  · rename_i h
    obtain ⟨i', o', hi, ho, h1, h2, h3⟩ := lay_nat h.1
    subst hi; subst ho
    dsimp only
    rw [show ((i' : Int)).toNat = i' from rfl, show ((o' : Int)).toNat = o' from rfl, runV_len (by simpa using h.1) (by omega)]
    omega
  · simp
theorem retL_no {w w' : World} (h : Below w.heap.size w w') : RetL false [] w (.returned (.tuple #[.slice none 0 0, .bool false])) w' := ⟨none, 0, [], rfl, ⟨World.ownsRow_nil _ _ _ _, fun _ h => by cases h⟩, rfl, h⟩
set_option maxRecDepth 20000 in
set_option maxHeartbeats 2000000 in
theorem t_iRunLayer (k i o : Int) (ws bs : List Nat) (a b : Option Addr) (c d : Nat) (z : List Nat) (x : Option Addr) (cx : Nat) (w : World) (h0 : IsFloats .f32 w a ws.length c ws ∧ IsFloats .f32 w b bs.length d bs) (h1 : IsFloats .f32 w x z.length cx z) :
    Calls Try.prog 58 #[.agg #[.int .i64 k, .int .i64 i, .int .i64 o, .slice a ws.length c, .slice b bs.length d], .slice x z.length cx] w (RetL (vRunLayer k i o ws bs z).1 (vRunLayer k i o ws bs z).2 w) := by
  have bal := (Below.refl w.heap.size w).alloc (Nat.le_refl _) (.cells #[.int .i64 k, .int .i64 i, .int .i64 o, .slice a ws.length c, .slice b bs.length d] 78)
  have B0 := Lib.hid bal
  have HA := Lib.hid (h0.1.kept bal)
  have HB := Lib.hid (h0.2.kept bal)
  have HX := Lib.hid (h1.kept bal)
  have K0 := Lib.hid (Blk.new w 78 #[.int .i64 k, .int .i64 i, .int .i64 o, .slice a ws.length c, .slice b bs.length d])
  have hmax : z.length ≤ 9223372036854775807 := by have h2 := h1.1; have h3 := h1.2.1; unfold maxLen at h3; omega
  clear h0 h1 bal
  cases hv : vLay k i o ws.length bs.length with
  | false =>
    have HV := Lib.hid (vRunLayer_no (z := z) (.inl hv))
    have HL := Lib.hid hv
    clear hv
    go_enter Try.func58, Try.ntmps58
    go_upto_region 1 with fail
    generalize w.alloc (.cells #[.int .i64 k, .int .i64 i, .int .i64 o, .slice a ws.length c, .slice b bs.length d] 78) = w0 at B0 HA HB HX K0 ⊢
    obtain ⟨p0, p1, p2, p3, p4, pl⟩ := tb5 K0.out
    go_wp2_with (go_at_call 121; refine (c_iValidLayer k i o a b ws.length bs.length c d false HL.out _).mono ?_; rintro e w2 ⟨rfl, bl⟩; have B2 := Lib.hid (Below.next B0.out bl); have K2 := Lib.hid (K0.out.below bl); clear bl p0 p1 p2 p3 p4 pl; obtain ⟨p0, p1, p2, p3, p4, pl⟩ := tb5 K2.out)
    go_ret2
    rw [HV.out]
    exact retL_no B2.out
  | true =>
    obtain ⟨i', o', hi, ho, hi8, ho8, hk⟩ := lay_nat hv
    subst hi; subst ho
    have HL := Lib.hid hv
    by_cases hz : z.length = i'
    case neg =>
      have HV := Lib.hid (vRunLayer_no (k := k) (i := i') (o := o') (ws := ws) (bs := bs) (z := z) (.inr (by omega)))
      have hne : ((z.length : Int) != (i' : Int)) = true := by simp; omega
      clear hv hk hz
      go_enter Try.func58, Try.ntmps58
      go_upto_region 1 with fail
      generalize w.alloc (.cells #[.int .i64 k, .int .i64 i', .int .i64 o', .slice a ws.length c, .slice b bs.length d] 78) = w0 at B0 HA HB HX K0 ⊢
      obtain ⟨p0, p1, p2, p3, p4, pl⟩ := tb5 K0.out
      go_wp2_with (go_at_call 121; refine (c_iValidLayer k i' o' a b ws.length bs.length c d true HL.out _).mono ?_; rintro e w2 ⟨rfl, bl⟩; have B2 := Lib.hid (Below.next B0.out bl); have K2 := Lib.hid (K0.out.below bl); clear bl p0 p1 p2 p3 p4 pl; obtain ⟨p0, p1, p2, p3, p4, pl⟩ := tb5 K2.out)
      go_ret2
      rw [HV.out]
      exact retL_no B2.out
    case pos =>
      have HV := Lib.hid (vRunLayer_yes hv hz)
      have HZ := Lib.hid hz
      have hne : ((z.length : Int) != (i' : Int)) = false := by simp; omega
      clear hv hk hz
      go_enter Try.func58, Try.ntmps58
      go_upto_region 1 with fail
      generalize w.alloc (.cells #[.int .i64 k, .int .i64 i', .int .i64 o', .slice a ws.length c, .slice b bs.length d] 78) = w0 at B0 HA HB HX K0 ⊢
      obtain ⟨p0, p1, p2, p3, p4, pl⟩ := tb5 K0.out
      go_wp2_with (go_at_call 121; refine (c_iValidLayer k i' o' a b ws.length bs.length c d true HL.out _).mono ?_; rintro e w2 ⟨rfl, bl⟩; have B2 := Lib.hid (Below.next B0.out bl); have K2 := Lib.hid (K0.out.below bl); have HA2 := Lib.hid (HA.out.kept bl); have HB2 := Lib.hid (HB.out.kept bl); have HX2 := Lib.hid (HX.out.kept bl); clear bl p0 p1 p2 p3 p4 pl; obtain ⟨p0, p1, p2, p3, p4, pl⟩ := tb5 K2.out)
      refine (c_runnerOf k i' o' a b c d ws bs _ HL.out HA2.out HB2.out).mono ?_
      rintro e w3 ⟨R, rfl, ⟨T, v, v', F, rfl, hm, hE, hc⟩, hb3⟩
      have B3 := Lib.hid (Below.next B2.out hb3)
      have HX3 := Lib.hid (HX2.out.kept hb3)
      have HC := Lib.hid hc
      clear hc hb3 p0 p1 p2 p3 p4 pl
      go_wp2_with fail
      refine (HC.out x cx z _ (Below.refl _ _) HX3.out HZ.out).mono ?_
      rintro e w4 ⟨a4, c4, ys, rfl, ho4, he4, hb4⟩
      have HRES := Lib.hid (show RetL true (runV k i' o' ws bs z) w (.returned (.tuple #[.slice a4 ys.length c4, .bool true])) w4 from ⟨a4, c4, ys, rfl, ho4.base B3.out.size, he4, Below.next B3.out hb4⟩)
      clear ho4 he4 hb4
      go_wp2_with fail
      go_ret2
      rw [HV.out]
      exact HRES.out
end Go.Proofs.Ytnkmgeiehhonkaa
