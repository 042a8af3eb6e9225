/-
  What is made of the squares of an image, as the program makes it. Conditions: the numbers can be read.
-/
import Derived.Test.YtaonfaeinoackaaConv
namespace Go.Proofs.Ytaonfaeinoackaa
open Go.RowKit Go.Deep Go.WideShapes Go.ChangeShapes
set_option linter.unusedVariables false

def okPool (r c : Int) (n : Nat) (s : Int) : Bool := ((vokB r c n && szB s) && decide (r % s = 0)) && decide (c % s = 0)
/-- number p of the squares of s by s numbers -/
def poolF (g : List Nat → Nat) (z : List Nat) (C s NC p : Nat) : Nat := g (partZ z C ((p / NC) * s) ((p % NC) * s) s s)
def vPool (g : List Nat → Nat → Nat) (r c : Int) (z : List Nat) (s : Int) : Int × Int × Bool × List Nat :=
  if okPool r c z.length s = true then (r / s, c / s, true, (List.range ((r / s).toNat * (c / s).toNat)).map (poolF (fun l => g l s.toNat) z c.toNat s.toNat (c / s).toNat)) else (0, 0, false, [])
theorem vPool_no {g : List Nat → Nat → Nat} {r c s : Int} {z : List Nat} (h : okPool r c z.length s = false) : vPool g r c z s = (0, 0, false, []) := by unfold vPool; rw [if_neg (by rw [h]; decide)]
theorem pool_nat {r c s : Int} {n : Nat} (h : okPool r c n s = true) : ∃ R C S NR NC : Nat, r = R ∧ c = C ∧ s = S ∧ 1 ≤ R ∧ R ≤ 16 ∧ 1 ≤ C ∧ C ≤ 16 ∧ 1 ≤ S ∧ S ≤ 8 ∧ n = R * C ∧ R = S * NR ∧ C = S * NC ∧ 1 ≤ NR ∧ 1 ≤ NC ∧ NR ≤ 16 ∧ NC ≤ 16 := by
  simp only [okPool, Bool.and_eq_true, decide_eq_true_eq, szB_iff] at h
  obtain ⟨⟨⟨h1, h2⟩, h3⟩, h4⟩ := h
  obtain ⟨R, C, rfl, rfl, a1, a2, a3, a4, a5⟩ := vok_nat h1
  obtain ⟨S, rfl⟩ := Int.eq_ofNat_of_zero_le (show 0 ≤ s by omega)
  have e3 : ((R % S : Nat) : Int) = 0 := (Int.natCast_emod R S).trans h3
  have e4 : ((C % S : Nat) : Int) = 0 := (Int.natCast_emod C S).trans h4
  obtain ⟨NR, hR⟩ := Nat.dvd_of_mod_eq_zero (show R % S = 0 by omega)
  obtain ⟨NC, hC⟩ := Nat.dvd_of_mod_eq_zero (show C % S = 0 by omega)
  have r1 : 1 ≤ NR := by
    rcases Nat.eq_zero_or_pos NR with h | h
    · subst h; simp at hR; omega
    · exact h
  have r2 : 1 ≤ NC := by
    rcases Nat.eq_zero_or_pos NC with h | h
    · subst h; simp at hC; omega
    · exact h
  have r3 : 1 * NR ≤ S * NR := Nat.mul_le_mul_right NR (by omega)
  have r4 : 1 * NC ≤ S * NC := Nat.mul_le_mul_right NC (by omega)
  exact ⟨R, C, S, NR, NC, rfl, rfl, rfl, a1, a2, a3, a4, by omega, by omega, a5, hR, hC, r1, r2, by omega, by omega⟩
theorem div_nat {R S NR : Nat} (h : R = S * NR) (hS : 1 ≤ S) : (R : Int) / (S : Int) = (NR : Int) := by
  subst h; rw [Int.natCast_mul, Int.mul_ediv_cancel_left _ (by omega)]
theorem vPool_yes {g : List Nat → Nat → Nat} {R C S NR NC : Nat} {z : List Nat} (h : okPool R C z.length S = true) (h1 : R = S * NR) (h2 : C = S * NC) (hS : 1 ≤ S) :
    vPool g R C z S = ((NR : Int), (NC : Int), true, (List.range (NR * NC)).map (poolF (fun l => g l S) z C S NC)) := by
  unfold vPool; rw [if_pos h, div_nat h1 hS, div_nat h2 hS]; simp
theorem vPool_len (g : List Nat → Nat → Nat) (r c : Int) (z : List Nat) (s : Int) : (vPool g r c z s).2.2.2.length ≤ 1048576 := by
  cases h : okPool r c z.length s with
  | false => rw [vPool_no h]; simp
  | true =>
    obtain ⟨R, C, S, NR, NC, rfl, rfl, rfl, h1, h2, h3, h4, h5, h6, h7, h8, h9, h10, h11, h12, h13⟩ := pool_nat h
    rw [vPool_yes h h8 h9 h5]
    have := Nat.mul_le_mul h12 h13
    simp; omega
theorem steps_pool {R S NR : Nat} (h : R = S * NR) (hS : 1 ≤ S) (hN : 1 ≤ NR) : steps R S S = NR ∧ S ≤ R := by
  subst h
  obtain ⟨k, rfl⟩ : ∃ k, NR = k + 1 := ⟨NR - 1, by omega⟩
  have e : S * (k + 1) = S * k + S := by rw [Nat.mul_add, Nat.mul_one]
  unfold steps
  rw [e, Nat.add_sub_cancel, Nat.mul_div_cancel_left _ (by omega)]
  exact ⟨rfl, by omega⟩
theorem pool_same (g : List Nat → Nat) (z : List Nat) (C s NC n : Nat) : (List.range n).map (partsF (fun top left => g (partZ z C top left s s)) s NC) = (List.range n).map (poolF g z C s NC) := rfl
theorem rem_zero {r s : Int} (h : decide (r % s = 0) = true) (hr : 0 ≤ r) : r.tmod s = 0 := by rw [Int.tmod_eq_emod_of_nonneg hr]; exact of_decide_eq_true h
theorem rem_not {r s : Int} (h : decide (r % s = 0) = false) (hr : 0 ≤ r) : ¬ r.tmod s = 0 := by rw [Int.tmod_eq_emod_of_nonneg hr]; exact of_decide_eq_false h
set_option maxRecDepth 20000 in
set_option maxHeartbeats 2000000 in
theorem c_pool (F : FuncId) (g : List Nat → Nat → Nat) (r c : Int) (z : List Nat) (s : Int) (a0 : Option Addr) (w : World) (w0 : IsFloats .f32 w a0 z.length z.length z)
    (hF : ∀ (S R C : Nat) (wr : World), s = S → 1 ≤ S → S ≤ 8 → Below w.heap.size w wr → TakeOk F #[] (fun top left => g (partZ z C top left S S) S) z R C S S wr) :
    Calls Try.prog 81 #[.agg #[.int .i64 r, .int .i64 c, .slice a0 z.length z.length], .int .i64 s, .func (.func F) #[] #[]] w (RetT (vPool g r c z s).1 (vPool g r c z s).2.1 (vPool g r c z s).2.2.1 (vPool g r c z s).2.2.2 w) := by
  have HA := Lib.hid w0
  have HFF := Lib.hid hF
  clear hF
  cases e1 : vokB r c z.length with
  | false =>
    have E1 := Lib.hid e1
    have HX := Lib.hid (vPool_no (g := g) (z := z) (r := r) (c := c) (s := s) (by unfold okPool; rw [e1]; rfl))
    rw [HX.out]
    clear e1 w0
    go_enter Try.func81, Try.ntmps81
    go_wp2_with fail
    have B_0 := Lib.hid (Below.refl w.heap.size w)
    have bl := (Below.refl (w).heap.size (w)).alloc (Nat.le_refl _) (.cells #[.int .i64 r, .int .i64 c, .slice a0 z.length z.length] 36)
    have hn := Blk.new (w) 36 #[.int .i64 r, .int .i64 c, .slice a0 z.length z.length]
    have B_1 := Lib.hid (Below.next B_0.out bl)
    clear bl B_0
    have K_1 := Lib.hid hn
    clear hn
    have bl := (Below.refl ((w).alloc (.cells #[.int .i64 r, .int .i64 c, .slice a0 z.length z.length] 36)).heap.size ((w).alloc (.cells #[.int .i64 r, .int .i64 c, .slice a0 z.length z.length] 36))).alloc (Nat.le_refl _) (.cells #[.int .i64 0, .int .i64 0, .slice none 0 0] 36)
    have hn := Blk.new ((w).alloc (.cells #[.int .i64 r, .int .i64 c, .slice a0 z.length z.length] 36)) 36 #[.int .i64 0, .int .i64 0, .slice none 0 0]
    simp only [World.size_alloc] at hn
    have B_2 := Lib.hid (Below.next B_1.out bl)
    have K_2 := Lib.hid (K_1.out.below bl)
    clear bl B_1 K_1
    have Q_2 := Lib.hid hn
    clear hn
    generalize ((w).alloc (.cells #[.int .i64 r, .int .i64 c, .slice a0 z.length z.length] 36)).alloc (.cells #[.int .i64 0, .int .i64 0, .slice none 0 0] 36) = w2 at B_2 K_2 Q_2 ⊢
    refine (c_iValid r c _ _ _ false E1.out _).mono ?_
    rintro e w3 ⟨rfl, bl⟩
    have B_3 := Lib.hid (Below.next B_2.out bl)
    have K_3 := Lib.hid (K_2.out.below bl)
    have Q_3 := Lib.hid (Q_2.out.below bl)
    clear bl B_2 K_2 Q_2
    obtain ⟨pK0, pK1, pK2, pK3⟩ := tb K_3.out
    obtain ⟨pQ0, pQ1, pQ2, pQ3⟩ := tb Q_3.out
    obtain ⟨fq0, fq1, fq2⟩ := tbf Q_3.out
    go_wp2_with fail
    exact bodyPost_ret (v := .tuple #[.agg #[.int .i64 0, .int .i64 0, .slice none 0 0], .bool false]) (by simp [results, Try.results81, go_sem, pQ0, pQ1, pQ2]) rfl ⟨none, 0, [], rfl, nil_own _ _, rfl, ((B_3.out.setCell (by simp) _).setCell (by simp) _).setCell (by simp) _⟩
  | true =>
    cases e2 : szB s with
    | false =>
      have E1 := Lib.hid e1
      have E2 := Lib.hid e2
      have HX := Lib.hid (vPool_no (g := g) (z := z) (r := r) (c := c) (s := s) (by unfold okPool; rw [e1, e2]; rfl))
      rw [HX.out]
      clear e1 e2 w0
      go_enter Try.func81, Try.ntmps81
      go_wp2_with fail
      have B_0 := Lib.hid (Below.refl w.heap.size w)
      have bl := (Below.refl (w).heap.size (w)).alloc (Nat.le_refl _) (.cells #[.int .i64 r, .int .i64 c, .slice a0 z.length z.length] 36)
      have hn := Blk.new (w) 36 #[.int .i64 r, .int .i64 c, .slice a0 z.length z.length]
      have B_1 := Lib.hid (Below.next B_0.out bl)
      clear bl B_0
      have K_1 := Lib.hid hn
      clear hn
      have bl := (Below.refl ((w).alloc (.cells #[.int .i64 r, .int .i64 c, .slice a0 z.length z.length] 36)).heap.size ((w).alloc (.cells #[.int .i64 r, .int .i64 c, .slice a0 z.length z.length] 36))).alloc (Nat.le_refl _) (.cells #[.int .i64 0, .int .i64 0, .slice none 0 0] 36)
      have hn := Blk.new ((w).alloc (.cells #[.int .i64 r, .int .i64 c, .slice a0 z.length z.length] 36)) 36 #[.int .i64 0, .int .i64 0, .slice none 0 0]
      simp only [World.size_alloc] at hn
      have B_2 := Lib.hid (Below.next B_1.out bl)
      have K_2 := Lib.hid (K_1.out.below bl)
      clear bl B_1 K_1
      have Q_2 := Lib.hid hn
      clear hn
      generalize ((w).alloc (.cells #[.int .i64 r, .int .i64 c, .slice a0 z.length z.length] 36)).alloc (.cells #[.int .i64 0, .int .i64 0, .slice none 0 0] 36) = w2 at B_2 K_2 Q_2 ⊢
      refine (c_iValid r c _ _ _ true E1.out _).mono ?_
      rintro e w3 ⟨rfl, bl⟩
      have B_3 := Lib.hid (Below.next B_2.out bl)
      have K_3 := Lib.hid (K_2.out.below bl)
      have Q_3 := Lib.hid (Q_2.out.below bl)
      clear bl B_2 K_2 Q_2
      obtain ⟨pK0, pK1, pK2, pK3⟩ := tb K_3.out
      obtain ⟨pQ0, pQ1, pQ2, pQ3⟩ := tb Q_3.out
      obtain ⟨fq0, fq1, fq2⟩ := tbf Q_3.out
      go_wp2_with fail
      refine (c_isKernelSize _ false E2.out _).mono ?_
      rintro e w' ⟨rfl, rfl⟩
      go_wp2_with fail
      exact bodyPost_ret (v := .tuple #[.agg #[.int .i64 0, .int .i64 0, .slice none 0 0], .bool false]) (by simp [results, Try.results81, go_sem, pQ0, pQ1, pQ2]) rfl ⟨none, 0, [], rfl, nil_own _ _, rfl, ((B_3.out.setCell (by simp) _).setCell (by simp) _).setCell (by simp) _⟩
    | true =>
      cases e3 : decide (r % s = 0) with
      | false =>
        have hr := ((vokB_iff r c z.length).1 e1).1
        have hc := ((vokB_iff r c z.length).1 e1).2.1
        have hs := (szB_iff s).1 e2
        have hs0 : ¬ s = 0 := by omega
        have hs1 : (s == 0) = false := by simpa using hs0
        have m1 : ¬ r.tmod s = 0 := rem_not e3 (by omega)
        have m1' : (r.tmod s != 0) = true := by simpa using m1
        have m2 : ¬ r % s = 0 := of_decide_eq_false e3
        have m2' : (r % s != 0) = true := by simpa using m2
        have E1 := Lib.hid e1
        have E2 := Lib.hid e2
        have HX := Lib.hid (vPool_no (g := g) (z := z) (r := r) (c := c) (s := s) (by unfold okPool; rw [e1, e2, e3]; rfl))
        rw [HX.out]
        clear e1 e2 e3 w0
        go_enter Try.func81, Try.ntmps81
        go_wp2_with fail
        have B_0 := Lib.hid (Below.refl w.heap.size w)
        have bl := (Below.refl (w).heap.size (w)).alloc (Nat.le_refl _) (.cells #[.int .i64 r, .int .i64 c, .slice a0 z.length z.length] 36)
        have hn := Blk.new (w) 36 #[.int .i64 r, .int .i64 c, .slice a0 z.length z.length]
        have B_1 := Lib.hid (Below.next B_0.out bl)
        clear bl B_0
        have K_1 := Lib.hid hn
        clear hn
        have bl := (Below.refl ((w).alloc (.cells #[.int .i64 r, .int .i64 c, .slice a0 z.length z.length] 36)).heap.size ((w).alloc (.cells #[.int .i64 r, .int .i64 c, .slice a0 z.length z.length] 36))).alloc (Nat.le_refl _) (.cells #[.int .i64 0, .int .i64 0, .slice none 0 0] 36)
        have hn := Blk.new ((w).alloc (.cells #[.int .i64 r, .int .i64 c, .slice a0 z.length z.length] 36)) 36 #[.int .i64 0, .int .i64 0, .slice none 0 0]
        simp only [World.size_alloc] at hn
        have B_2 := Lib.hid (Below.next B_1.out bl)
        have K_2 := Lib.hid (K_1.out.below bl)
        clear bl B_1 K_1
        have Q_2 := Lib.hid hn
        clear hn
        generalize ((w).alloc (.cells #[.int .i64 r, .int .i64 c, .slice a0 z.length z.length] 36)).alloc (.cells #[.int .i64 0, .int .i64 0, .slice none 0 0] 36) = w2 at B_2 K_2 Q_2 ⊢
        refine (c_iValid r c _ _ _ true E1.out _).mono ?_
        rintro e w3 ⟨rfl, bl⟩
        have B_3 := Lib.hid (Below.next B_2.out bl)
        have K_3 := Lib.hid (K_2.out.below bl)
        have Q_3 := Lib.hid (Q_2.out.below bl)
        clear bl B_2 K_2 Q_2
        obtain ⟨pK0, pK1, pK2, pK3⟩ := tb K_3.out
        obtain ⟨pQ0, pQ1, pQ2, pQ3⟩ := tb Q_3.out
        obtain ⟨fq0, fq1, fq2⟩ := tbf Q_3.out
        go_wp2_with fail
        refine (c_isKernelSize _ true E2.out _).mono ?_
        rintro e w' ⟨rfl, rfl⟩
        go_wp2_with fail
        exact bodyPost_ret (v := .tuple #[.agg #[.int .i64 0, .int .i64 0, .slice none 0 0], .bool false]) (by simp [results, Try.results81, go_sem, pQ0, pQ1, pQ2]) rfl ⟨none, 0, [], rfl, nil_own _ _, rfl, ((B_3.out.setCell (by simp) _).setCell (by simp) _).setCell (by simp) _⟩
      | true =>
        cases e4 : decide (c % s = 0) with
        | false =>
          have hr := ((vokB_iff r c z.length).1 e1).1
          have hc := ((vokB_iff r c z.length).1 e1).2.1
          have hs := (szB_iff s).1 e2
          have hs0 : ¬ s = 0 := by omega
          have hs1 : (s == 0) = false := by simpa using hs0
          have m1 : r.tmod s = 0 := rem_zero e3 (by omega)
          have m2 : r % s = 0 := of_decide_eq_true e3
          have m3 : ¬ c.tmod s = 0 := rem_not e4 (by omega)
          have m3' : (c.tmod s != 0) = true := by simpa using m3
          have m4 : ¬ c % s = 0 := of_decide_eq_false e4
          have m4' : (c % s != 0) = true := by simpa using m4
          have E1 := Lib.hid e1
          have E2 := Lib.hid e2
          have HX := Lib.hid (vPool_no (g := g) (z := z) (r := r) (c := c) (s := s) (by unfold okPool; rw [e1, e2, e3, e4]; rfl))
          rw [HX.out]
          clear e1 e2 e3 e4 w0
          go_enter Try.func81, Try.ntmps81
          go_wp2_with fail
          have B_0 := Lib.hid (Below.refl w.heap.size w)
          have bl := (Below.refl (w).heap.size (w)).alloc (Nat.le_refl _) (.cells #[.int .i64 r, .int .i64 c, .slice a0 z.length z.length] 36)
          have hn := Blk.new (w) 36 #[.int .i64 r, .int .i64 c, .slice a0 z.length z.length]
          have B_1 := Lib.hid (Below.next B_0.out bl)
          clear bl B_0
          have K_1 := Lib.hid hn
          clear hn
          have bl := (Below.refl ((w).alloc (.cells #[.int .i64 r, .int .i64 c, .slice a0 z.length z.length] 36)).heap.size ((w).alloc (.cells #[.int .i64 r, .int .i64 c, .slice a0 z.length z.length] 36))).alloc (Nat.le_refl _) (.cells #[.int .i64 0, .int .i64 0, .slice none 0 0] 36)
          have hn := Blk.new ((w).alloc (.cells #[.int .i64 r, .int .i64 c, .slice a0 z.length z.length] 36)) 36 #[.int .i64 0, .int .i64 0, .slice none 0 0]
          simp only [World.size_alloc] at hn
          have B_2 := Lib.hid (Below.next B_1.out bl)
          have K_2 := Lib.hid (K_1.out.below bl)
          clear bl B_1 K_1
          have Q_2 := Lib.hid hn
          clear hn
          generalize ((w).alloc (.cells #[.int .i64 r, .int .i64 c, .slice a0 z.length z.length] 36)).alloc (.cells #[.int .i64 0, .int .i64 0, .slice none 0 0] 36) = w2 at B_2 K_2 Q_2 ⊢
          refine (c_iValid r c _ _ _ true E1.out _).mono ?_
          rintro e w3 ⟨rfl, bl⟩
          have B_3 := Lib.hid (Below.next B_2.out bl)
          have K_3 := Lib.hid (K_2.out.below bl)
          have Q_3 := Lib.hid (Q_2.out.below bl)
          clear bl B_2 K_2 Q_2
          obtain ⟨pK0, pK1, pK2, pK3⟩ := tb K_3.out
          obtain ⟨pQ0, pQ1, pQ2, pQ3⟩ := tb Q_3.out
          obtain ⟨fq0, fq1, fq2⟩ := tbf Q_3.out
          go_wp2_with fail
          refine (c_isKernelSize _ true E2.out _).mono ?_
          rintro e w' ⟨rfl, rfl⟩
          go_wp2_with fail
          exact bodyPost_ret (v := .tuple #[.agg #[.int .i64 0, .int .i64 0, .slice none 0 0], .bool false]) (by simp [results, Try.results81, go_sem, pQ0, pQ1, pQ2]) rfl ⟨none, 0, [], rfl, nil_own _ _, rfl, ((B_3.out.setCell (by simp) _).setCell (by simp) _).setCell (by simp) _⟩
        | true =>
          have hok : okPool r c z.length s = true := by unfold okPool; rw [e1, e2, e3, e4]; rfl
          have hr := ((vokB_iff r c z.length).1 e1).1
          have hc := ((vokB_iff r c z.length).1 e1).2.1
          have hs := (szB_iff s).1 e2
          have hs0 : ¬ s = 0 := by omega
          have hs1 : (s == 0) = false := by simpa using hs0
          have m1 : r.tmod s = 0 := rem_zero e3 (by omega)
          have m2 : r % s = 0 := of_decide_eq_true e3
          have m3 : c.tmod s = 0 := rem_zero e4 (by omega)
          have m4 : c % s = 0 := of_decide_eq_true e4
          obtain ⟨R, C, S, NR, NC, rfl, rfl, rfl, a1', a2', a3', a4', s1, s2, hn, hR, hC, n1, n2, n3, n4⟩ := pool_nat hok
          have E1 := Lib.hid e1
          have E2 := Lib.hid e2
          have HN := Lib.hid hn
          have HSR := Lib.hid (steps_pool hR s1 n1)
          have HSC := Lib.hid (steps_pool hC s1 n2)
          have HX := Lib.hid (vPool_yes (g := g) hok hR hC s1)
          rw [HX.out]
          obtain ⟨vals, hvals⟩ : ∃ vals, (List.range (NR * NC)).map (poolF (fun l => g l S) z C S NC) = vals := ⟨_, rfl⟩
          have HVAL := Lib.hid hvals
          rw [hvals]
          clear e1 e2 e3 e4 w0 hok hn hvals hR hC
          go_enter Try.func81, Try.ntmps81
          go_wp2_with fail
          have B_0 := Lib.hid (Below.refl w.heap.size w)
          have bl := (Below.refl (w).heap.size (w)).alloc (Nat.le_refl _) (.cells #[.int .i64 (R : Int), .int .i64 (C : Int), .slice a0 z.length z.length] 36)
          have hn := Blk.new (w) 36 #[.int .i64 (R : Int), .int .i64 (C : Int), .slice a0 z.length z.length]
          have B_1 := Lib.hid (Below.next B_0.out bl)
          clear bl B_0
          have K_1 := Lib.hid hn
          clear hn
          have bl := (Below.refl ((w).alloc (.cells #[.int .i64 (R : Int), .int .i64 (C : Int), .slice a0 z.length z.length] 36)).heap.size ((w).alloc (.cells #[.int .i64 (R : Int), .int .i64 (C : Int), .slice a0 z.length z.length] 36))).alloc (Nat.le_refl _) (.cells #[.int .i64 0, .int .i64 0, .slice none 0 0] 36)
          have hn := Blk.new ((w).alloc (.cells #[.int .i64 (R : Int), .int .i64 (C : Int), .slice a0 z.length z.length] 36)) 36 #[.int .i64 0, .int .i64 0, .slice none 0 0]
          simp only [World.size_alloc] at hn
          have B_2 := Lib.hid (Below.next B_1.out bl)
          have K_2 := Lib.hid (K_1.out.below bl)
          clear bl B_1 K_1
          have Q_2 := Lib.hid hn
          clear hn
          generalize ((w).alloc (.cells #[.int .i64 (R : Int), .int .i64 (C : Int), .slice a0 z.length z.length] 36)).alloc (.cells #[.int .i64 0, .int .i64 0, .slice none 0 0] 36) = w2 at B_2 K_2 Q_2 ⊢
          refine (c_iValid (R : Int) (C : Int) _ _ _ true E1.out _).mono ?_
          rintro e w3 ⟨rfl, bl⟩
          have B_3 := Lib.hid (Below.next B_2.out bl)
          have K_3 := Lib.hid (K_2.out.below bl)
          have Q_3 := Lib.hid (Q_2.out.below bl)
          clear bl B_2 K_2 Q_2
          obtain ⟨pK0, pK1, pK2, pK3⟩ := tb K_3.out
          obtain ⟨pQ0, pQ1, pQ2, pQ3⟩ := tb Q_3.out
          obtain ⟨fq0, fq1, fq2⟩ := tbf Q_3.out
          go_wp2_with fail
          refine (c_isKernelSize _ true E2.out _).mono ?_
          rintro e w' ⟨rfl, rfl⟩
          go_wp2_with fail
          clear pK0 pK1 pK2 pK3 pQ0 pQ1 pQ2 pQ3 fq0 fq1 fq2
          have CC := c_takeParts F #[] (fun top left => g (partZ z C top left S S) S) R C a0 z.length z.length z S S S w3 (HA.out.kept B_3.out) HN.out a2' a4' s1 s1 HSR.out.2 HSC.out.2 s1 (by omega) (HFF.out S R C w3 rfl s1 s2 B_3.out)
          rw [HSR.out.1, HSC.out.1] at CC
          refine CC.mono ?_
          clear CC
          rintro e w4 ⟨b, cc, ys, rfl, hf, hy, bl⟩
          have HW := Lib.hid (hf.base (B' := w.heap.size) B_3.out.size)
          have HY := Lib.hid (hy.trans HVAL.out)
          clear hf hy
          have B_4 := Lib.hid (Below.next B_3.out bl)
          have K_4 := Lib.hid (K_3.out.below bl)
          have Q_4 := Lib.hid (Q_3.out.below bl)
          clear bl B_3 K_3 Q_3
          obtain ⟨pK0, pK1, pK2, pK3⟩ := tb K_4.out
          obtain ⟨pQ0, pQ1, pQ2, pQ3⟩ := tb Q_4.out
          obtain ⟨fq0, fq1, fq2⟩ := tbf Q_4.out
          go_wp2_with fail
          exact bodyPost_ret (v := .tuple #[.agg #[.int .i64 NR, .int .i64 NC, .slice b ys.length cc], .bool true]) (by simp [results, Try.results81, go_sem, pQ0, pQ1, pQ2]) rfl ⟨b, cc, ys, rfl, HW.out.off (store3 Q_4.out).2 Q_4.out (by decide), HY.out, ((B_4.out.setCell (by simp) _).setCell (by simp) _).setCell (by simp) _⟩
end Go.Proofs.Ytaonfaeinoackaa
