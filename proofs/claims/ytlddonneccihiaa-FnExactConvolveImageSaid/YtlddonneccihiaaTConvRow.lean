/-
  What ConvolveRow returns, as the model and as the program make it. Conditions: the numbers can be read.
-/
import Derived.Test.YtlddonneccihiaaConv
namespace Go.Proofs.Ytlddonneccihiaa
open Go.RowKit Go.Deep Go.WideShapes Go.ChangeShapes

/-- the third field of a tensor by value -/
theorem run_field2 (w : World) (x y : Int) (v : Value) : (Instr.field 48 (.agg #[.int .i64 x, .int .i64 y, v]) 2).run Try.prog w = .ok v w := by kernel_rfl
def okConv (n m : Nat) (a : Int) : Bool := ((szB n && szB m) && decide (m ≤ n)) && szB a
def convF (z zk : List Nat) (s p : Nat) : Nat := cdot zk ((z.drop (p * s)).take zk.length)
def vConvolveRow (z0 z1 : List Nat) (a : Int) : Bool × List Nat := if okConv z0.length z1.length a = true then (true, (List.range (steps z0.length z1.length a.toNat)).map (convF z0 z1 a.toNat)) else (false, [])
theorem conv_nat {n m : Nat} {a : Int} (h : okConv n m a = true) : ∃ s : Nat, a = s ∧ 1 ≤ s ∧ s ≤ 8 ∧ 1 ≤ n ∧ n ≤ 8 ∧ 1 ≤ m ∧ m ≤ n := by
  simp only [okConv, Bool.and_eq_true, szB_iff, decide_eq_true_eq] at h
  exact ⟨a.toNat, by omega, by omega, by omega, by omega, by omega, by omega, by omega⟩
theorem vConvolveRow_no {z0 z1 : List Nat} {a : Int} (h : okConv z0.length z1.length a = false) : vConvolveRow z0 z1 a = (false, []) := by unfold vConvolveRow; rw [if_neg (by rw [h]; decide)]
theorem vConvolveRow_yes {z0 z1 : List Nat} {s : Nat} (h : okConv z0.length z1.length s = true) : vConvolveRow z0 z1 s = (true, (List.range (steps z0.length z1.length s)).map (convF z0 z1 s)) := by unfold vConvolveRow; rw [if_pos h]; simp
theorem vConvolveRow_len (z0 z1 : List Nat) (a : Int) : (vConvolveRow z0 z1 a).2.length ≤ 1048576 := by
  cases h : okConv z0.length z1.length a with
  | false => rw [vConvolveRow_no h]; simp
  | true =>
    obtain ⟨s, rfl, h1, h2, h3, h4, h5, h6⟩ := conv_nat h
    rw [vConvolveRow_yes h]
    have := steps_le (n := z0.length) (k := z1.length) (s := s) (by omega) h5
    simp; omega
theorem conv_same (z zk : List Nat) (s n : Nat) (_hs : 1 ≤ s) : (List.range (steps 1 1 s * steps n zk.length s)).map (partsF (fun top left => cdot zk (partZ z n top left zk.length 1)) s (steps n zk.length s)) = (List.range (steps n zk.length s)).map (convF z zk s) := by
  have e : steps 1 1 s = 1 := by unfold steps; simp
  rw [e, Nat.one_mul]
  refine List.map_congr_left fun p hp => ?_
  have hp := List.mem_range.1 hp
  unfold partsF convF
  rw [Nat.div_eq_of_lt hp, Nat.mod_eq_of_lt hp, Nat.zero_mul]
  simp [partZ]
set_option maxRecDepth 20000 in
set_option maxHeartbeats 2000000 in
theorem t_iConvolveRow (z0 z1 : List Nat) (a2 : Int) (a0 a1 : Option Addr) (w : World) (w0 : IsFloats .f32 w a0 z0.length z0.length z0) (w1 : IsFloats .f32 w a1 z1.length z1.length z1) :
    Calls Try.prog 14 #[.slice a0 z0.length z0.length, .slice a1 z1.length z1.length, .int .i64 a2] w (RetL (vConvolveRow z0 z1 a2).1 (vConvolveRow z0 z1 a2).2 w) := by
  have HX := Lib.hid w0
  have HK := Lib.hid w1
  cases e1 : szB z0.length with
  | false =>
    have E1 := Lib.hid e1
    have HE := Lib.hid (vConvolveRow_no (z0 := z0) (z1 := z1) (a := a2) (by unfold okConv; rw [e1]; rfl))
    rw [HE.out]
    clear e1 w0 w1
    go_enter Try.func14, Try.ntmps14
    go_wp2_with fail
    refine (c_rowTensor _ _ _ _).mono ?_
    rintro e wa ⟨rfl, bl⟩
    have B_1 := Lib.hid bl
    clear bl
    go_wp2_with fail
    refine (c_rowTensor _ _ _ _).mono ?_
    rintro e wb ⟨rfl, bl⟩
    have B_2 := Lib.hid (Below.next B_1.out bl)
    clear bl B_1
    go_wp2_with fail
    have bl := (Below.refl wb.heap.size wb).alloc (Nat.le_refl _) (.cells #[.int .i64 1, .int .i64 z0.length, .slice a0 z0.length z0.length] 48)
    have hn := Blk.new wb 48 #[.int .i64 1, .int .i64 z0.length, .slice a0 z0.length z0.length]
    have B_3 := Lib.hid (Below.next B_2.out bl)
    clear bl B_2
    have K_3 := Lib.hid hn
    clear hn
    have bl := (Below.refl (wb.alloc (.cells #[.int .i64 1, .int .i64 z0.length, .slice a0 z0.length z0.length] 48)).heap.size (wb.alloc (.cells #[.int .i64 1, .int .i64 z0.length, .slice a0 z0.length z0.length] 48))).alloc (Nat.le_refl _) (.cells #[.int .i64 1, .int .i64 z1.length, .slice a1 z1.length z1.length] 48)
    have hn := Blk.new (wb.alloc (.cells #[.int .i64 1, .int .i64 z0.length, .slice a0 z0.length z0.length] 48)) 48 #[.int .i64 1, .int .i64 z1.length, .slice a1 z1.length z1.length]
    simp only [World.size_alloc] at hn
    have B_4 := Lib.hid (Below.next B_3.out bl)
    have K_4 := Lib.hid (K_3.out.below bl)
    clear bl B_3 K_3
    have L_4 := Lib.hid hn
    clear hn
    generalize (wb.alloc (.cells #[.int .i64 1, .int .i64 z0.length, .slice a0 z0.length z0.length] 48)).alloc (.cells #[.int .i64 1, .int .i64 z1.length, .slice a1 z1.length z1.length] 48) = w4 at B_4 K_4 L_4 ⊢
    obtain ⟨pK0, pK1, pK2, pK3⟩ := tb K_4.out
    obtain ⟨pL0, pL1, pL2, pL3⟩ := tb L_4.out
    go_wp2_with fail
    refine (c_isKernelSize _ false E1.out _).mono ?_
    rintro e w' ⟨rfl, rfl⟩
    go_wp2_with fail
    go_ret2
    exact ⟨none, 0, [], rfl, nil_own _ _, rfl, B_4.out⟩
  | true =>
    cases e2 : szB z1.length with
    | false =>
      have E1 := Lib.hid e1
      have E2 := Lib.hid e2
      have HE := Lib.hid (vConvolveRow_no (z0 := z0) (z1 := z1) (a := a2) (by unfold okConv; rw [e1, e2]; rfl))
      rw [HE.out]
      clear e1 e2 w0 w1
      go_enter Try.func14, Try.ntmps14
      go_wp2_with fail
      refine (c_rowTensor _ _ _ _).mono ?_
      rintro e wa ⟨rfl, bl⟩
      have B_1 := Lib.hid bl
      clear bl
      go_wp2_with fail
      refine (c_rowTensor _ _ _ _).mono ?_
      rintro e wb ⟨rfl, bl⟩
      have B_2 := Lib.hid (Below.next B_1.out bl)
      clear bl B_1
      go_wp2_with fail
      have bl := (Below.refl wb.heap.size wb).alloc (Nat.le_refl _) (.cells #[.int .i64 1, .int .i64 z0.length, .slice a0 z0.length z0.length] 48)
      have hn := Blk.new wb 48 #[.int .i64 1, .int .i64 z0.length, .slice a0 z0.length z0.length]
      have B_3 := Lib.hid (Below.next B_2.out bl)
      clear bl B_2
      have K_3 := Lib.hid hn
      clear hn
      have bl := (Below.refl (wb.alloc (.cells #[.int .i64 1, .int .i64 z0.length, .slice a0 z0.length z0.length] 48)).heap.size (wb.alloc (.cells #[.int .i64 1, .int .i64 z0.length, .slice a0 z0.length z0.length] 48))).alloc (Nat.le_refl _) (.cells #[.int .i64 1, .int .i64 z1.length, .slice a1 z1.length z1.length] 48)
      have hn := Blk.new (wb.alloc (.cells #[.int .i64 1, .int .i64 z0.length, .slice a0 z0.length z0.length] 48)) 48 #[.int .i64 1, .int .i64 z1.length, .slice a1 z1.length z1.length]
      simp only [World.size_alloc] at hn
      have B_4 := Lib.hid (Below.next B_3.out bl)
      have K_4 := Lib.hid (K_3.out.below bl)
      clear bl B_3 K_3
      have L_4 := Lib.hid hn
      clear hn
      generalize (wb.alloc (.cells #[.int .i64 1, .int .i64 z0.length, .slice a0 z0.length z0.length] 48)).alloc (.cells #[.int .i64 1, .int .i64 z1.length, .slice a1 z1.length z1.length] 48) = w4 at B_4 K_4 L_4 ⊢
      obtain ⟨pK0, pK1, pK2, pK3⟩ := tb K_4.out
      obtain ⟨pL0, pL1, pL2, pL3⟩ := tb L_4.out
      go_wp2_with fail
      refine (c_isKernelSize _ true E1.out _).mono ?_
      rintro e w' ⟨rfl, rfl⟩
      go_wp2_with fail
      refine (c_isKernelSize _ false E2.out _).mono ?_
      rintro e w' ⟨rfl, rfl⟩
      go_wp2_with fail
      go_ret2
      exact ⟨none, 0, [], rfl, nil_own _ _, rfl, B_4.out⟩
    | true =>
      cases e3 : decide (z1.length ≤ z0.length) with
      | false =>
        have E1 := Lib.hid e1
        have E2 := Lib.hid e2
        have hgt : z0.length < z1.length := by have := of_decide_eq_false e3; omega
        have hgt' : (z0.length : Int) < (z1.length : Int) := by omega
        have HE := Lib.hid (vConvolveRow_no (z0 := z0) (z1 := z1) (a := a2) (by unfold okConv; rw [e1, e2, e3]; rfl))
        rw [HE.out]
        clear e1 e2 e3 w0 w1
        go_enter Try.func14, Try.ntmps14
        go_wp2_with fail
        refine (c_rowTensor _ _ _ _).mono ?_
        rintro e wa ⟨rfl, bl⟩
        have B_1 := Lib.hid bl
        clear bl
        go_wp2_with fail
        refine (c_rowTensor _ _ _ _).mono ?_
        rintro e wb ⟨rfl, bl⟩
        have B_2 := Lib.hid (Below.next B_1.out bl)
        clear bl B_1
        go_wp2_with fail
        have bl := (Below.refl wb.heap.size wb).alloc (Nat.le_refl _) (.cells #[.int .i64 1, .int .i64 z0.length, .slice a0 z0.length z0.length] 48)
        have hn := Blk.new wb 48 #[.int .i64 1, .int .i64 z0.length, .slice a0 z0.length z0.length]
        have B_3 := Lib.hid (Below.next B_2.out bl)
        clear bl B_2
        have K_3 := Lib.hid hn
        clear hn
        have bl := (Below.refl (wb.alloc (.cells #[.int .i64 1, .int .i64 z0.length, .slice a0 z0.length z0.length] 48)).heap.size (wb.alloc (.cells #[.int .i64 1, .int .i64 z0.length, .slice a0 z0.length z0.length] 48))).alloc (Nat.le_refl _) (.cells #[.int .i64 1, .int .i64 z1.length, .slice a1 z1.length z1.length] 48)
        have hn := Blk.new (wb.alloc (.cells #[.int .i64 1, .int .i64 z0.length, .slice a0 z0.length z0.length] 48)) 48 #[.int .i64 1, .int .i64 z1.length, .slice a1 z1.length z1.length]
        simp only [World.size_alloc] at hn
        have B_4 := Lib.hid (Below.next B_3.out bl)
        have K_4 := Lib.hid (K_3.out.below bl)
        clear bl B_3 K_3
        have L_4 := Lib.hid hn
        clear hn
        generalize (wb.alloc (.cells #[.int .i64 1, .int .i64 z0.length, .slice a0 z0.length z0.length] 48)).alloc (.cells #[.int .i64 1, .int .i64 z1.length, .slice a1 z1.length z1.length] 48) = w4 at B_4 K_4 L_4 ⊢
        obtain ⟨pK0, pK1, pK2, pK3⟩ := tb K_4.out
        obtain ⟨pL0, pL1, pL2, pL3⟩ := tb L_4.out
        go_wp2_with fail
        refine (c_isKernelSize _ true E1.out _).mono ?_
        rintro e w' ⟨rfl, rfl⟩
        go_wp2_with fail
        refine (c_isKernelSize _ true E2.out _).mono ?_
        rintro e w' ⟨rfl, rfl⟩
        go_wp2_with fail
        go_ret2
        exact ⟨none, 0, [], rfl, nil_own _ _, rfl, B_4.out⟩
      | true =>
        cases e4 : szB a2 with
        | false =>
          have E1 := Lib.hid e1
          have E2 := Lib.hid e2
          have E4 := Lib.hid e4
          have hle : z1.length ≤ z0.length := of_decide_eq_true e3
          have hle' : ¬ (z0.length : Int) < (z1.length : Int) := by omega
          have HE := Lib.hid (vConvolveRow_no (z0 := z0) (z1 := z1) (a := a2) (by unfold okConv; rw [e1, e2, e3, e4]; rfl))
          rw [HE.out]
          clear e1 e2 e3 e4 w0 w1
          go_enter Try.func14, Try.ntmps14
          go_wp2_with fail
          refine (c_rowTensor _ _ _ _).mono ?_
          rintro e wa ⟨rfl, bl⟩
          have B_1 := Lib.hid bl
          clear bl
          go_wp2_with fail
          refine (c_rowTensor _ _ _ _).mono ?_
          rintro e wb ⟨rfl, bl⟩
          have B_2 := Lib.hid (Below.next B_1.out bl)
          clear bl B_1
          go_wp2_with fail
          have bl := (Below.refl wb.heap.size wb).alloc (Nat.le_refl _) (.cells #[.int .i64 1, .int .i64 z0.length, .slice a0 z0.length z0.length] 48)
          have hn := Blk.new wb 48 #[.int .i64 1, .int .i64 z0.length, .slice a0 z0.length z0.length]
          have B_3 := Lib.hid (Below.next B_2.out bl)
          clear bl B_2
          have K_3 := Lib.hid hn
          clear hn
          have bl := (Below.refl (wb.alloc (.cells #[.int .i64 1, .int .i64 z0.length, .slice a0 z0.length z0.length] 48)).heap.size (wb.alloc (.cells #[.int .i64 1, .int .i64 z0.length, .slice a0 z0.length z0.length] 48))).alloc (Nat.le_refl _) (.cells #[.int .i64 1, .int .i64 z1.length, .slice a1 z1.length z1.length] 48)
          have hn := Blk.new (wb.alloc (.cells #[.int .i64 1, .int .i64 z0.length, .slice a0 z0.length z0.length] 48)) 48 #[.int .i64 1, .int .i64 z1.length, .slice a1 z1.length z1.length]
          simp only [World.size_alloc] at hn
          have B_4 := Lib.hid (Below.next B_3.out bl)
          have K_4 := Lib.hid (K_3.out.below bl)
          clear bl B_3 K_3
          have L_4 := Lib.hid hn
          clear hn
          generalize (wb.alloc (.cells #[.int .i64 1, .int .i64 z0.length, .slice a0 z0.length z0.length] 48)).alloc (.cells #[.int .i64 1, .int .i64 z1.length, .slice a1 z1.length z1.length] 48) = w4 at B_4 K_4 L_4 ⊢
          obtain ⟨pK0, pK1, pK2, pK3⟩ := tb K_4.out
          obtain ⟨pL0, pL1, pL2, pL3⟩ := tb L_4.out
          go_wp2_with fail
          refine (c_isKernelSize _ true E1.out _).mono ?_
          rintro e w' ⟨rfl, rfl⟩
          go_wp2_with fail
          refine (c_isKernelSize _ true E2.out _).mono ?_
          rintro e w' ⟨rfl, rfl⟩
          go_wp2_with fail
          refine (c_isKernelSize _ false E4.out _).mono ?_
          rintro e w' ⟨rfl, rfl⟩
          go_wp2_with fail
          go_ret2
          exact ⟨none, 0, [], rfl, nil_own _ _, rfl, B_4.out⟩
        | true =>
          have E1 := Lib.hid e1
          have E2 := Lib.hid e2
          have E4 := Lib.hid e4
          have hok : okConv z0.length z1.length a2 = true := by unfold okConv; rw [e1, e2, e3, e4]; rfl
          obtain ⟨s, rfl, s1, s2, n1, n2, m1, m2⟩ := conv_nat hok
          have HE := Lib.hid (vConvolveRow_yes hok)
          rw [HE.out]
          have hle' : ¬ (z0.length : Int) < (z1.length : Int) := by omega
          obtain ⟨vals, hvals⟩ : ∃ vals, (List.range (steps z0.length z1.length s)).map (convF z0 z1 s) = vals := ⟨_, rfl⟩
          have HV := Lib.hid ((conv_same z0 z1 s z0.length s1).trans hvals)
          rw [hvals]
          clear e1 e2 e3 e4 w0 w1 hok hvals
          go_enter Try.func14, Try.ntmps14
          go_wp2_with fail
          refine (c_rowTensor _ _ _ _).mono ?_
          rintro e wa ⟨rfl, bl⟩
          have B_1 := Lib.hid bl
          clear bl
          go_wp2_with fail
          refine (c_rowTensor _ _ _ _).mono ?_
          rintro e wb ⟨rfl, bl⟩
          have B_2 := Lib.hid (Below.next B_1.out bl)
          clear bl B_1
          go_wp2_with fail
          have bl := (Below.refl wb.heap.size wb).alloc (Nat.le_refl _) (.cells #[.int .i64 1, .int .i64 z0.length, .slice a0 z0.length z0.length] 48)
          have hn := Blk.new wb 48 #[.int .i64 1, .int .i64 z0.length, .slice a0 z0.length z0.length]
          have B_3 := Lib.hid (Below.next B_2.out bl)
          clear bl B_2
          have K_3 := Lib.hid hn
          clear hn
          have bl := (Below.refl (wb.alloc (.cells #[.int .i64 1, .int .i64 z0.length, .slice a0 z0.length z0.length] 48)).heap.size (wb.alloc (.cells #[.int .i64 1, .int .i64 z0.length, .slice a0 z0.length z0.length] 48))).alloc (Nat.le_refl _) (.cells #[.int .i64 1, .int .i64 z1.length, .slice a1 z1.length z1.length] 48)
          have hn := Blk.new (wb.alloc (.cells #[.int .i64 1, .int .i64 z0.length, .slice a0 z0.length z0.length] 48)) 48 #[.int .i64 1, .int .i64 z1.length, .slice a1 z1.length z1.length]
          simp only [World.size_alloc] at hn
          have B_4 := Lib.hid (Below.next B_3.out bl)
          have K_4 := Lib.hid (K_3.out.below bl)
          clear bl B_3 K_3
          have L_4 := Lib.hid hn
          clear hn
          generalize (wb.alloc (.cells #[.int .i64 1, .int .i64 z0.length, .slice a0 z0.length z0.length] 48)).alloc (.cells #[.int .i64 1, .int .i64 z1.length, .slice a1 z1.length z1.length] 48) = w4 at B_4 K_4 L_4 ⊢
          obtain ⟨pK0, pK1, pK2, pK3⟩ := tb K_4.out
          obtain ⟨pL0, pL1, pL2, pL3⟩ := tb L_4.out
          go_wp2_with fail
          refine (c_isKernelSize _ true E1.out _).mono ?_
          rintro e w' ⟨rfl, rfl⟩
          go_wp2_with fail
          refine (c_isKernelSize _ true E2.out _).mono ?_
          rintro e w' ⟨rfl, rfl⟩
          go_wp2_with fail
          refine (c_isKernelSize _ true E4.out _).mono ?_
          rintro e w' ⟨rfl, rfl⟩
          go_wp2_with fail
          clear pK0 pK1 pK2 pK3 pL0 pL1 pL2 pL3
          refine (c_convolve 1 z0.length 1 z1.length a0 a1 z0.length z0.length z1.length z1.length z0 z1 s _ (HX.out.kept B_4.out) (HK.out.kept B_4.out) (Nat.one_mul _).symm (Nat.one_mul _) (by decide) (by omega) (Nat.le_refl _) m1 (Nat.le_refl _) m2 s1 (by omega)).mono ?_
          rintro e w5 ⟨b, cc, ys, rfl, hf, hy, bl⟩
          have HW := Lib.hid (hf.base (B' := w.heap.size) B_4.out.size)
          have HY := Lib.hid (hy.trans HV.out)
          have B_5 := Lib.hid (Below.next B_4.out bl)
          clear hf hy bl
          have hfd := run_field2
          go_wp2_with fail
          go_ret2
          exact ⟨b, cc, ys, rfl, HW.out, HY.out, B_5.out⟩
theorem c_l03Short (a : Option Addr) (n cap : Nat) (b : Bool) (h : szB n = b) (w : World) : Calls Try.prog 39 #[.slice a n cap] w fun e w' => e = .returned (.bool b) ∧ w = w' := by
  cases b with
  | true =>
    obtain ⟨h1, h2⟩ := (szB_iff n).1 h
    have h3 : 1 ≤ n := by omega
    have h4 : n ≤ 8 := by omega
    clear h
    go_enter Try.func39, Try.ntmps39
    go_wp2
    go_ret
    exact ⟨rfl, rfl⟩
  | false =>
    rcases (szB_no n).1 h with h1 | h1
    · obtain rfl : n = 0 := by omega
      clear h h1
      go_enter Try.func39, Try.ntmps39
      go_wp2
      go_ret
      exact ⟨rfl, rfl⟩
    · have h3 : 1 ≤ n := by omega
      have h4 : ¬ n ≤ 8 := by omega
      have h5 : decide (n ≤ 8) = false := decide_eq_false h4
      clear h h1
      go_enter Try.func39, Try.ntmps39
      go_wp2
      go_ret
      exact ⟨ret_b (decide_eq_false (by omega)), rfl⟩
theorem addF_next {w wr w' : World} {b a' : Option Addr} {cp c' m v : Nat} {T : TypeId} {ys : List Nat} (ho : OwnF wr w.heap.size b cp ys) (hv : v < 2 ^ 32)
    (hown : w'.ownsRow w.heap.size 26 1 (.slice a' (ys.length + 1) c') (ys.length + 1) (ys.map (Value.float .f32) ++ [.float .f32 v])) (hgr : ((wr.drewN m).alloc (.cells #[.float .f32 v] T)).grownBy w' (Value.ownBlock (.slice b ys.length cp)))
    (hl : Below w.heap.size w wr) : OwnF w' w.heap.size a' c' (ys ++ [v]) ∧ Below w.heap.size w w' := by
  rw [ownBlock_slice] at hgr
  have bl := (below_drewN (Below.refl wr.heap.size wr) m).alloc (Nat.le_refl _) (.cells #[.float .f32 v] T)
  have ho1 := ho.kept bl
  refine ⟨⟨by simpa using hown, fun y hy => ?_⟩, (hl.trans (bl.mono hl.size)).grown hgr (Nat.le_trans hl.size bl.size) (fun g h => (ho1.lt g h).1)⟩
  rcases List.mem_append.1 hy with h | h
  · exact ho.2 y h
  · simp at h; subst h; exact hv
def ConvRel (z zk : List Nat) (s NC : Nat) (w : World) (o i : Value) (wr : World) : Prop :=
  ∃ (p at' : Nat) (b : Option Addr) (cp : Nat) (ys : List Nat), p * s = at' ∧ p ≤ NC ∧ i = .int .i64 at' ∧ o = .slice b ys.length cp ∧ ys.map (canon .f32) = (List.range p).map (convF z zk s) ∧ OwnF wr w.heap.size b cp ys ∧ Below w.heap.size w wr
set_option maxRecDepth 20000 in
set_option maxHeartbeats 2000000 in
theorem t_sConvolveRow (z0 z1 : List Nat) (a2 : Int) (a0 a1 : Option Addr) (w : World) (w0 : IsFloats .f32 w a0 z0.length z0.length z0) (w1 : IsFloats .f32 w a1 z1.length z1.length z1) :
    Calls Try.prog 12 #[.slice a0 z0.length z0.length, .slice a1 z1.length z1.length, .int .i64 a2] w (RetL (vConvolveRow z0 z1 a2).1 (vConvolveRow z0 z1 a2).2 w) := by
  have HX := Lib.hid w0
  have HK := Lib.hid w1
  cases e1 : szB z0.length with
  | false =>
    have E1 := Lib.hid e1
    have HE := Lib.hid (vConvolveRow_no (z0 := z0) (z1 := z1) (a := a2) (by unfold okConv; rw [e1]; rfl))
    rw [HE.out]
    clear e1 w0 w1
    go_enter Try.func12, Try.ntmps12
    go_wp2_with fail
    refine (c_l03Short _ _ _ false E1.out _).mono ?_
    rintro e w' ⟨rfl, rfl⟩
    go_wp2_with fail
    go_ret2
    exact ⟨none, 0, [], rfl, nil_own _ _, rfl, Below.refl _ _⟩
  | true =>
    cases e2 : szB z1.length with
    | false =>
      have E1 := Lib.hid e1
      have E2 := Lib.hid e2
      have HE := Lib.hid (vConvolveRow_no (z0 := z0) (z1 := z1) (a := a2) (by unfold okConv; rw [e1, e2]; rfl))
      rw [HE.out]
      clear e1 e2 w0 w1
      go_enter Try.func12, Try.ntmps12
      go_wp2_with fail
      refine (c_l03Short _ _ _ true E1.out _).mono ?_
      rintro e w' ⟨rfl, rfl⟩
      go_wp2_with fail
      refine (c_l03Short _ _ _ false E2.out _).mono ?_
      rintro e w' ⟨rfl, rfl⟩
      go_wp2_with fail
      go_ret2
      exact ⟨none, 0, [], rfl, nil_own _ _, rfl, Below.refl _ _⟩
    | true =>
      cases e3 : decide (z1.length ≤ z0.length) with
      | false =>
        have E1 := Lib.hid e1
        have E2 := Lib.hid e2
        have hgt : z0.length < z1.length := by have := of_decide_eq_false e3; omega
        have hgt' : (z0.length : Int) < (z1.length : Int) := by omega
        have HE := Lib.hid (vConvolveRow_no (z0 := z0) (z1 := z1) (a := a2) (by unfold okConv; rw [e1, e2, e3]; rfl))
        rw [HE.out]
        clear e1 e2 e3 w0 w1
        go_enter Try.func12, Try.ntmps12
        go_wp2_with fail
        refine (c_l03Short _ _ _ true E1.out _).mono ?_
        rintro e w' ⟨rfl, rfl⟩
        go_wp2_with fail
        refine (c_l03Short _ _ _ true E2.out _).mono ?_
        rintro e w' ⟨rfl, rfl⟩
        go_wp2_with fail
        go_ret2
        exact ⟨none, 0, [], rfl, nil_own _ _, rfl, Below.refl _ _⟩
      | true =>
        cases e4 : szB a2 with
        | false =>
          have E1 := Lib.hid e1
          have E2 := Lib.hid e2
          have E4 : Hid ((decide ((1 : Int) ≤ a2) && decide (a2 ≤ 8)) = false) := Lib.hid e4
          have hle : z1.length ≤ z0.length := of_decide_eq_true e3
          have hle' : ¬ z0.length < z1.length := by omega
          have HE := Lib.hid (vConvolveRow_no (z0 := z0) (z1 := z1) (a := a2) (by unfold okConv; rw [e1, e2, e3, e4]; rfl))
          rw [HE.out]
          clear e1 e2 e3 e4 w0 w1
          go_enter Try.func12, Try.ntmps12
          go_wp2_with fail
          refine (c_l03Short _ _ _ true E1.out _).mono ?_
          rintro e w' ⟨rfl, rfl⟩
          go_wp2_with fail
          refine (c_l03Short _ _ _ true E2.out _).mono ?_
          rintro e w' ⟨rfl, rfl⟩
          go_wp2_with fail
          refine (c_l00In _ _ _ false E4.out _).mono ?_
          rintro e w' ⟨rfl, rfl⟩
          go_wp2_with fail
          go_ret2
          exact ⟨none, 0, [], rfl, nil_own _ _, rfl, Below.refl _ _⟩
        | true =>
          have E1 := Lib.hid e1
          have E2 := Lib.hid e2
          have hok : okConv z0.length z1.length a2 = true := by unfold okConv; rw [e1, e2, e3, e4]; rfl
          obtain ⟨s, rfl, s1, s2, n1, n2, m1, m2⟩ := conv_nat hok
          have E4 : Hid ((decide ((1 : Int) ≤ (s : Int)) && decide ((s : Int) ≤ 8)) = true) := Lib.hid e4
          have HE := Lib.hid (vConvolveRow_yes hok)
          rw [HE.out]
          have hle' : ¬ z0.length < z1.length := by omega
          obtain ⟨NC, hNC⟩ : ∃ x, steps z0.length z1.length s = x := ⟨_, rfl⟩
          have hNC2 : NC ≤ 16 := by rw [← hNC]; exact steps_le (by omega) m1
          have HST := Lib.hid (fun p => show p < NC ↔ p * s + z1.length ≤ z0.length by rw [← hNC]; exact steps_lt s1 m2)
          rw [hNC]
          obtain ⟨i0, hi, hz0, hz1, hz2⟩ := info_parts info_f32
          have JI := Lib.hid hi
          have HZ0 := Lib.hid hz0
          have HZ1 := Lib.hid hz1
          have HZ2 := Lib.hid hz2
          clear e1 e2 e3 e4 w0 w1 hok hNC hi hz0 hz1 hz2
          go_enter Try.func12, Try.ntmps12
          go_wp2_with fail
          refine (c_l03Short _ _ _ true E1.out _).mono ?_
          rintro e w' ⟨rfl, rfl⟩
          go_wp2_with fail
          refine (c_l03Short _ _ _ true E2.out _).mono ?_
          rintro e w' ⟨rfl, rfl⟩
          go_wp2_with fail
          refine (c_l00In _ _ _ true E4.out _).mono ?_
          rintro e w' ⟨rfl, rfl⟩
          go_wp2_with fail
          have bE := Lib.hid ((Below.refl w.heap.size w).alloc (Nat.le_refl _) (.cells #[] 26))
          have OE := Lib.hid (show OwnF (w.alloc (.cells #[] 26)) w.heap.size (some ⟨w.heap.size, 0, none⟩) 0 [] from ⟨World.ownsRow_made w #[] 0 (Nat.le_refl _) (by decide) rfl, fun _ h => by cases h⟩)
          go_loopw [8, 9] (fun o i wr => ConvRel z0 z1 s NC w o i wr) (fun _ i _ => 256 - (intOf i).toNat)
          case atStart => exact ⟨0, 0, _, 0, [], by rw [Nat.zero_mul], Nat.zero_le _, rfl, rfl, rfl, OE.out, bE.out⟩
          case round =>
            obtain ⟨p, at', b, cp, ys, hat, hp, rfl, rfl, hy, ho, hbl⟩ := hrel
            have HY := Lib.hid hy
            have HO := Lib.hid ho
            have HL := Lib.hid hbl
            have h0 : (0 : Int) ≤ (at' : Int) := by omega
            have hst := HST.out p
            rw [hat] at hst
            have hat2 : at' ≤ 16 * 8 := by rw [← hat]; exact Nat.mul_le_mul (by omega) s2
            have HAT := Lib.hid hat
            have HLY := Lib.hid (show ys.length = p by have := congrArg List.length hy; simpa using this)
            clear hy ho hbl bE OE hat
            by_cases hlt : p < NC
            · have hfit := hst.1 hlt
              have hfit' : (at' : Int) + (z1.length : Int) ≤ (z0.length : Int) := by omega
              have u1 : (at' : Int) < (at' : Int) + (z1.length : Int) := by omega
              have u2 : ((at' : Int) + (z1.length : Int)).toNat = at' + z1.length := by omega
              have hne : ¬ z0.length = at' := by omega
              obtain ⟨pb, off, rfl⟩ : ∃ pb off, a0 = some ⟨pb, off, none⟩ := by
                rcases HX.out.2.2.2.2 with h' | ⟨b', off', rfl, _⟩
                · omega
                · exact ⟨b', off', rfl⟩
              have fP := (HX.out.kept HL.out).part at' (at' + z1.length) (by omega) hfit (z0.length - at') (by omega) (by unfold maxLen; omega)
              rw [Nat.add_sub_cancel_left] at fP
              have FP : Hid (IsFloats .f32 wr (some ⟨pb, off + at', none⟩) z1.length (z0.length - at') ((z0.drop at').take z1.length)) := Lib.hid (by simpa [add_plain] using fP)
              have HKW := Lib.hid (HK.out.kept HL.out)
              have A1 := Lib.hid (show ys.length + 1 ≤ 256 by rw [HLY.out]; omega)
              clear fP hst
              go_wp2_with fail
              refine (c_l01Dot a1 (some ⟨pb, off + at', none⟩) z1.length z1.length (z0.length - at') z1 _ _ HKW.out FP.out).mono ?_
              rintro e w5 ⟨r, q, hr, hrl, rfl, rfl⟩
              have HR := Lib.hid (show canon .f32 r = convF z0 z1 s p by rw [hr]; unfold convF; rw [HAT.out])
              have HRL := Lib.hid hrl
              clear hr hrl
              go_wp2_with (at_builtin; refine wpList_append_any _ rfl (.tmp 41) (.tmp 51) 38 rfl w.heap.size 26 i0 (.float .f32 0) 1 4 Try.underlying38 JI.out HZ0.out HZ1.out HZ2.out rfl Nat.one_pos (.slice b ys.length cp) ys.length (ys.map (Value.float .f32)) rfl (made_own HO.out) (wr.heap.size + 1) (some ⟨wr.heap.size, 0, none⟩) 1 1 [.float .f32 r] rfl made_reads (one_f32 _) ?c1 ?c2 (made_base HL.out.size) ?_)
              case c1 => have := A1.out; unfold maxLen; omega
              case c2 => have := A1.out; omega
              intro v' w6 hown hgr hat
              obtain ⟨a', c', rfl⟩ := ownsRow_slice hown
              have HNX := Lib.hid (addF_next HO.out HRL.out hown hgr HL.out)
              clear hown hgr hat
              go_wp2_with fail
              go_roundw
              case rel =>
                obtain ⟨t1, t2⟩ := HNX.out
                refine ⟨p + 1, at' + s, a', c', ys ++ [r], by rw [Nat.add_mul, Nat.one_mul, HAT.out], by omega, by go_num, by simp, ?_, t1, t2⟩
                rw [List.map_append, HY.out, List.range_succ, List.map_append, List.map_cons, List.map_nil, HR.out]
                rfl
              case measure => simp [intOf]; omega
            · obtain rfl : p = NC := by omega
              have hge : ¬ (at' : Int) + (z1.length : Int) ≤ (z0.length : Int) := by omega
              clear hst
              go_wp2_with fail
              go_ret2
              exact ⟨b, cp, ys, rfl, HO.out, HY.out, HL.out⟩
end Go.Proofs.Ytlddonneccihiaa
