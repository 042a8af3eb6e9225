/-
  What SumAll returns, as the model and as the program make it. Conditions: the numbers can be read.
-/
import Derived.Test.YtijjmljdkpdigabRow
namespace Go.Proofs.Ytijjmljdkpdigab
open Go.RowKit

def vSumAll (r c : Int) (z : List Nat) : Nat × Bool := if vokB r c z.length = true then (csum z, true) else (0, false)
theorem vok256 {r c : Int} {n : Nat} (h : vokB r c n = true) : n ≤ 256 ∧ 1 ≤ n := by
  obtain ⟨⟨e1, e2⟩, ⟨e3, e4⟩, e5⟩ := (vokB_iff _ _ _).1 h
  have := mul_small e1 e2 e3 e4
  omega
theorem c_sumInOrder (a : Option Addr) (n cap : Nat) (zs : List Nat) (w : World) (h : IsFloats .f32 w a n cap zs) (hn : n ≤ 256) : Calls Try.prog 82 #[.slice a n cap] w (RetF .f32 (csum zs) w) := by
  have H := Lib.hid h
  clear h
  go_enter Try.func82, Try.ntmps82
  go_wp2_with fail
  refine (c_iSumNumbers _ _ _ zs _ H.out hn).mono ?_
  rintro e w' ⟨r, n, hr, hr2, rfl, rfl⟩
  have HR := Lib.hid hr
  have HR2 := Lib.hid hr2
  clear hr hr2
  go_wp2_with fail
  go_ret
  exact ⟨r, _, HR.out, HR2.out, rfl, rfl⟩
set_option maxHeartbeats 1000000 in
theorem t_sSumAll (r c : Int) (z : List Nat) (a0 : Option Addr) (w : World) (h0 : IsFloats .f32 w a0 z.length z.length z) :
    Calls Try.prog 33 #[.agg #[.int .i64 r, .int .i64 c, .slice a0 z.length z.length]] w (RetFb (vSumAll r c z).1 (vSumAll r c z).2 w) := by
  have hn : z.length ≤ 9223372036854775807 := by have := h0.2.1; unfold maxLen at this; exact this
  have HI := Lib.hid h0
  clear h0
  cases hv : vokB r c z.length with
  | false =>
    have HV := Lib.hid hv
    have HX := Lib.hid (show vSumAll r c z = (0, false) by unfold vSumAll; rw [if_neg (by rw [hv]; decide)])
    clear hv
    rw [HX.out]
    go_enter Try.func33, Try.ntmps33
    go_wp2_with fail
    have B_0 := Lib.hid (Below.refl w.heap.size w)
    have bl := (Below.refl (w).heap.size (w)).alloc (Nat.le_refl _) (.cells #[.int .i64 r, .int .i64 c, .slice a0 z.length z.length] 26)
    have hn := Blk.new (w) 26 #[.int .i64 r, .int .i64 c, .slice a0 z.length z.length]
    have B_1 := Lib.hid (Below.next B_0.out bl)
    clear bl B_0
    have K_1 := Lib.hid hn
    clear hn
    generalize (w).alloc (.cells #[.int .i64 r, .int .i64 c, .slice a0 z.length z.length] 26) = w1 at B_1 K_1 ⊢
    obtain ⟨pK0, pK1, pK2, pK3⟩ := tb K_1.out
    refine (c_l02Is w.heap.size 0 r c a0 z.length z.length false HV.out hn _ pK0 pK1 pK2).mono ?_
    rintro e w2 ⟨rfl, dn⟩
    have bl := dn.below
    clear dn
    have B_2 := Lib.hid (Below.next B_1.out bl)
    have K_2 := Lib.hid (K_1.out.below bl)
    clear bl B_1 K_1
    clear pK0 pK1 pK2 pK3
    obtain ⟨pK0, pK1, pK2, pK3⟩ := tb K_2.out
    go_wp2_with fail
    go_ret2
    exact ⟨0, by decide +kernel, rfl, B_2.out⟩
  | true =>
    have HV := Lib.hid hv
    have HX := Lib.hid (show vSumAll r c z = (csum z, true) by unfold vSumAll; rw [if_pos hv])
    have h256 := (vok256 hv).1
    clear hv
    rw [HX.out]
    go_enter Try.func33, Try.ntmps33
    go_wp2_with fail
    have B_0 := Lib.hid (Below.refl w.heap.size w)
    have bl := (Below.refl (w).heap.size (w)).alloc (Nat.le_refl _) (.cells #[.int .i64 r, .int .i64 c, .slice a0 z.length z.length] 26)
    have hn := Blk.new (w) 26 #[.int .i64 r, .int .i64 c, .slice a0 z.length z.length]
    have B_1 := Lib.hid (Below.next B_0.out bl)
    clear bl B_0
    have K_1 := Lib.hid hn
    clear hn
    generalize (w).alloc (.cells #[.int .i64 r, .int .i64 c, .slice a0 z.length z.length] 26) = w1 at B_1 K_1 ⊢
    obtain ⟨pK0, pK1, pK2, pK3⟩ := tb K_1.out
    refine (c_l02Is w.heap.size 0 r c a0 z.length z.length true HV.out hn _ pK0 pK1 pK2).mono ?_
    rintro e w2 ⟨rfl, dn⟩
    have bl := dn.below
    clear dn
    have B_2 := Lib.hid (Below.next B_1.out bl)
    have K_2 := Lib.hid (K_1.out.below bl)
    clear bl B_1 K_1
    clear pK0 pK1 pK2 pK3
    obtain ⟨pK0, pK1, pK2, pK3⟩ := tb K_2.out
    go_wp2_with fail
    clear pK0 pK1 pK2 pK3
    refine (c_l01Sum _ _ _ z _ (HI.out.kept B_2.out)).mono ?_
    rintro e w' ⟨x, m, hx, _, rfl, rfl⟩
    have HXX := Lib.hid hx
    clear hx
    go_wp2_with fail
    go_ret2
    exact ⟨x, HXX.out, rfl, below_drewN B_2.out _⟩
set_option maxHeartbeats 1000000 in
theorem t_iSumAll (r c : Int) (z : List Nat) (a0 : Option Addr) (w : World) (h0 : IsFloats .f32 w a0 z.length z.length z) :
    Calls Try.prog 34 #[.agg #[.int .i64 r, .int .i64 c, .slice a0 z.length z.length]] w (RetFb (vSumAll r c z).1 (vSumAll r c z).2 w) := by
  have hn : z.length ≤ 9223372036854775807 := by have := h0.2.1; unfold maxLen at this; exact this
  have HI := Lib.hid h0
  clear h0
  cases hv : vokB r c z.length with
  | false =>
    have HV := Lib.hid hv
    have HX := Lib.hid (show vSumAll r c z = (0, false) by unfold vSumAll; rw [if_neg (by rw [hv]; decide)])
    clear hv
    rw [HX.out]
    go_enter Try.func34, Try.ntmps34
    go_wp2_with fail
    have B_0 := Lib.hid (Below.refl w.heap.size w)
    have bl := (Below.refl (w).heap.size (w)).alloc (Nat.le_refl _) (.cells #[.int .i64 r, .int .i64 c, .slice a0 z.length z.length] 26)
    have hn := Blk.new (w) 26 #[.int .i64 r, .int .i64 c, .slice a0 z.length z.length]
    have B_1 := Lib.hid (Below.next B_0.out bl)
    clear bl B_0
    have K_1 := Lib.hid hn
    clear hn
    generalize (w).alloc (.cells #[.int .i64 r, .int .i64 c, .slice a0 z.length z.length] 26) = w1 at B_1 K_1 ⊢
    refine (c_iValid r c _ _ _ false HV.out _).mono ?_
    rintro e w2 ⟨rfl, bl⟩
    have B_2 := Lib.hid (Below.next B_1.out bl)
    have K_2 := Lib.hid (K_1.out.below bl)
    clear bl B_1 K_1
    obtain ⟨pK0, pK1, pK2, pK3⟩ := tb K_2.out
    go_wp2_with fail
    go_ret2
    exact ⟨0, by decide +kernel, rfl, B_2.out⟩
  | true =>
    have HV := Lib.hid hv
    have HX := Lib.hid (show vSumAll r c z = (csum z, true) by unfold vSumAll; rw [if_pos hv])
    have h256 := (vok256 hv).1
    clear hv
    rw [HX.out]
    go_enter Try.func34, Try.ntmps34
    go_wp2_with fail
    have B_0 := Lib.hid (Below.refl w.heap.size w)
    have bl := (Below.refl (w).heap.size (w)).alloc (Nat.le_refl _) (.cells #[.int .i64 r, .int .i64 c, .slice a0 z.length z.length] 26)
    have hn := Blk.new (w) 26 #[.int .i64 r, .int .i64 c, .slice a0 z.length z.length]
    have B_1 := Lib.hid (Below.next B_0.out bl)
    clear bl B_0
    have K_1 := Lib.hid hn
    clear hn
    generalize (w).alloc (.cells #[.int .i64 r, .int .i64 c, .slice a0 z.length z.length] 26) = w1 at B_1 K_1 ⊢
    refine (c_iValid r c _ _ _ true HV.out _).mono ?_
    rintro e w2 ⟨rfl, bl⟩
    have B_2 := Lib.hid (Below.next B_1.out bl)
    have K_2 := Lib.hid (K_1.out.below bl)
    clear bl B_1 K_1
    obtain ⟨pK0, pK1, pK2, pK3⟩ := tb K_2.out
    go_wp2_with fail
    clear pK0 pK1 pK2 pK3
    refine (c_sumInOrder _ _ _ z _ (HI.out.kept B_2.out) h256).mono ?_
    rintro e w' ⟨x, m, hx, _, rfl, rfl⟩
    have HXX := Lib.hid hx
    clear hx
    go_wp2_with fail
    go_ret2
    exact ⟨x, HXX.out, rfl, below_drewN B_2.out _⟩
end Go.Proofs.Ytijjmljdkpdigab
