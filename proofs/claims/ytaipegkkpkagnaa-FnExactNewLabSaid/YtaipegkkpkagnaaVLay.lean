/-
  Which layers are valid: what the model and the program answer. Conditions: the cells can be read.
-/
import Derived.Test.YtaipegkkpkagnaaLay
import Derived.Test.YtaipegkkpkagnaaVal
import Derived.BigQuiet
import Derived.Laws.StructEq
namespace Go.Proofs.Ytaipegkkpkagnaa
open Go.RowKit
set_option linter.unusedVariables false

def szB (n : Int) : Bool := decide (1 ≤ n) && decide (n ≤ 8)
theorem szB_iff (n : Int) : szB n = true ↔ 1 ≤ n ∧ n ≤ 8 := by simp [szB]
theorem szB_no (n : Int) : szB n = false ↔ n < 1 ∨ 8 < n := by
  by_cases h : szB n = true
  · rw [h]; rw [szB_iff] at h; simp; omega
  · have h' : szB n = false := by simpa using h
    rw [szB_iff] at h; rw [h']; simp; omega
/-- how many weights, and how many numbers of bias -/
def countsOf (k i o : Int) : Int × Int := if k = 0 then (o * i, o) else if k = 2 then (i, 0) else if k = 5 then (i, i) else (0, 0)
def vLay (k i o : Int) (n m : Nat) : Bool := (decide (0 ≤ k) && decide (k ≤ 5)) && szB i && szB o && (decide (k = 0) || decide (i = o)) && decide ((n : Int) = (countsOf k i o).1) && decide ((m : Int) = (countsOf k i o).2)
theorem mul_sz {r c : Int} (h1 : 1 ≤ r) (h2 : r ≤ 8) (h3 : 1 ≤ c) (h4 : c ≤ 8) : 1 ≤ r * c ∧ r * c ≤ 64 := by
  have a : r * c ≤ 8 * c := Int.mul_le_mul_of_nonneg_right h2 (by omega)
  have b : 1 * c ≤ r * c := Int.mul_le_mul_of_nonneg_right h1 (by omega)
  omega
theorem vLay_iff (k i o : Int) (n m : Nat) : vLay k i o n m = true ↔ (0 ≤ k ∧ k ≤ 5) ∧ (1 ≤ i ∧ i ≤ 8) ∧ (1 ≤ o ∧ o ≤ 8) ∧ (k = 0 ∨ i = o) ∧ (n : Int) = (countsOf k i o).1 ∧ (m : Int) = (countsOf k i o).2 := by
  simp [vLay, szB_iff, and_assoc]
theorem c_isSize (n : Int) (b : Bool) (h : szB n = b) (w : World) : Calls Try.prog 187 #[.int .i64 n] w fun e w' => e = .returned (.bool b) ∧ w = w' := by
  cases b with
  | true =>
    obtain ⟨h1, h2⟩ := (szB_iff n).1 h
    clear h
    go_enter Try.func187, Try.ntmps187
    go_wp2
    go_ret
    exact ⟨rfl, rfl⟩
  | false =>
    rcases (szB_no n).1 h with h1 | h1
    · clear h
      go_enter Try.func187, Try.ntmps187
      go_wp2
      go_ret
      exact ⟨rfl, rfl⟩
    · clear h
      have h2 : 1 ≤ n := by omega
      go_enter Try.func187, Try.ntmps187
      go_wp2
      go_ret
      exact ⟨ret_b (decide_eq_false (by omega)), rfl⟩
theorem countsOf_some (k i o : Int) : ∃ n1 n2, countsOf k i o = (n1, n2) := ⟨_, _, rfl⟩
@[go_sem] theorem eqArr2 (a b c d : Int) (w : World) : (Op.equalIn 10000 251 (.agg #[.int .i64 a, .int .i64 b]) (.agg #[.int .i64 c, .int .i64 d])).run Try.prog w = .ok (a == c && b == d) w := by
  have u3 := Try.underlying2
  have a3 := Try.isAgg2
  have z3 := Try.sizeOf2
  rw [show (10000 : Nat) = 9999 + 1 from rfl, Op.equalIn]
  simp only [Sem.run_bind, run_underlying Try.underlying251, Result.andThen_ok]
  simp only [Std.Legacy.Range.forIn_eq_forIn_range', Std.Legacy.Range.size, Nat.sub_zero, Nat.add_sub_cancel, Nat.div_one, List.range'_succ, List.range'_zero, List.forIn_cons, List.forIn_nil]
  go_simp
  by_cases h1 : a = c <;> by_cases h2 : b = d <;> simp [h1, h2]
set_option maxHeartbeats 1000000 in
theorem c_paramSizes (k i o : Int) (a b : Option Addr) (n m ca cb : Nat) (n1 n2 : Int) (hc : countsOf k i o = (n1, n2)) (h0 : 0 ≤ k) (h5 : k ≤ 5) (i1 : 1 ≤ i) (i8 : i ≤ 8) (o1 : 1 ≤ o) (o8 : o ≤ 8) (w : World) :
    Calls Try.prog 188 #[.agg #[.int .i64 k, .int .i64 i, .int .i64 o, .slice a n ca, .slice b m cb]] w fun e w' => e = .returned (.tuple #[.agg #[.int .i64 n1, .int .i64 n2], .bool true]) ∧ Below w.heap.size w w' := by
  obtain ⟨m1, m2⟩ := mul_sz o1 o8 i1 i8
  have hk : k = 0 ∨ k = 1 ∨ k = 2 ∨ k = 3 ∨ k = 4 ∨ k = 5 := by omega
  clear h0 h5
  rcases hk with rfl | rfl | rfl | rfl | rfl | rfl
  all_goals
    simp (decide := true) only [countsOf, if_false, if_true, Prod.mk.injEq] at hc
    obtain ⟨rfl, rfl⟩ := hc
    go_enter Try.func188, Try.ntmps188
    go_wp2
    refine bodyPost_ret (v := .tuple #[.agg #[.int .i64 _, .int .i64 _], .bool true]) (by simp [results, Try.results188, go_sem]; try rfl) rfl ⟨rfl, ((Below.refl _ _).alloc (Nat.le_refl _) _).alloc (by simp) _⟩
set_option maxHeartbeats 1000000 in
theorem c_paramSizes_no (k i o : Int) (a b : Option Addr) (n m ca cb : Nat) (hk : k < 0 ∨ 5 < k) (w : World) :
    Calls Try.prog 188 #[.agg #[.int .i64 k, .int .i64 i, .int .i64 o, .slice a n ca, .slice b m cb]] w fun e w' => e = .returned (.tuple #[.agg #[.int .i64 0, .int .i64 0], .bool false]) ∧ Below w.heap.size w w' := by
  have k0 : ¬ k = 0 := by omega
  have k1 : ¬ k = 1 := by omega
  have k2 : ¬ k = 2 := by omega
  have k3 : ¬ k = 3 := by omega
  have k4 : ¬ k = 4 := by omega
  have k5 : ¬ k = 5 := by omega
  clear hk
  go_enter Try.func188, Try.ntmps188
  go_wp2
  refine bodyPost_ret (v := .tuple #[.agg #[.int .i64 0, .int .i64 0], .bool false]) (by simp [results, Try.results188, go_sem]; try rfl) rfl ⟨rfl, ((Below.refl _ _).alloc (Nat.le_refl _) _).alloc (by simp) _⟩
set_option maxRecDepth 20000 in
set_option maxHeartbeats 1000000 in
theorem c_iValidLayer (k i o : Int) (a b : Option Addr) (n m ca cb : Nat) (v : Bool) (h : vLay k i o n m = v) (w : World) :
    Calls Try.prog 153 #[.agg #[.int .i64 k, .int .i64 i, .int .i64 o, .slice a n ca, .slice b m cb]] w fun e w' => e = .returned (.bool v) ∧ Below w.heap.size w w' := by
  have H := Lib.hid h
  cases hi : szB i with
  | false =>
    obtain rfl : v = false := by rw [← h, vLay, hi]; simp
    have HI := Lib.hid hi
    clear h hi
    go_enter Try.func153, Try.ntmps153
    go_wp2_with fail
    refine (c_isSize _ false HI.out _).mono ?_
    rintro e w' ⟨rfl, rfl⟩
    go_wp2_with fail
    go_ret
    exact ⟨rfl, (Below.refl _ _).alloc (Nat.le_refl _) _⟩
  | true =>
    have HI := Lib.hid hi
    cases ho : szB o with
    | false =>
      obtain rfl : v = false := by rw [← h, vLay, ho]; simp
      have HO := Lib.hid ho
      clear h hi ho
      go_enter Try.func153, Try.ntmps153
      go_wp2_with fail
      refine (c_isSize _ true HI.out _).mono ?_
      rintro e w' ⟨rfl, rfl⟩
      go_wp2_with fail
      refine (c_isSize _ false HO.out _).mono ?_
      rintro e w' ⟨rfl, rfl⟩
      go_wp2_with fail
      go_ret
      exact ⟨rfl, (Below.refl _ _).alloc (Nat.le_refl _) _⟩
    | true =>
      have HO := Lib.hid ho
      obtain ⟨i1, i8⟩ := (szB_iff i).1 hi
      obtain ⟨o1, o8⟩ := (szB_iff o).1 ho
      by_cases hg : k ≠ 0 ∧ i ≠ o
      · obtain rfl : v = false := by rw [← h, vLay]; simp [hg.1, hg.2]
        have g1 : (k != 0) = true := by simp [hg.1]
        have g2 : (i != o) = true := by simp [hg.2]
        clear h hi ho hg
        go_enter Try.func153, Try.ntmps153
        go_wp2_with fail
        refine (c_isSize _ true HI.out _).mono ?_
        rintro e w' ⟨rfl, rfl⟩
        go_wp2_with fail
        refine (c_isSize _ true HO.out _).mono ?_
        rintro e w' ⟨rfl, rfl⟩
        go_wp2_with fail
        go_ret
        exact ⟨rfl, (Below.refl _ _).alloc (Nat.le_refl _) _⟩
      · have hg' : (!(decide (k = 0)) && !(decide (i = o))) = false := by
          by_cases hk : k = 0 <;> simp_all
        by_cases hr : 0 ≤ k ∧ k ≤ 5
        · obtain ⟨n1, n2, hc⟩ := countsOf_some k i o
          have HC := Lib.hid hc
          have HR := Lib.hid hr
          have HG := Lib.hid hg
          have h1 := Lib.hid i1
          have h2 := Lib.hid i8
          have h3 := Lib.hid o1
          have h4 := Lib.hid o8
          have hv : (n1 == (n : Int) && n2 == (m : Int)) = v := by
            have e1 : (countsOf k i o).1 = n1 := by rw [hc]
            have e2 : (countsOf k i o).2 = n2 := by rw [hc]
            have hg2 : (decide (k = 0) || decide (i = o)) = true := by
              by_cases hk : k = 0 <;> simp_all
            rw [← h, vLay, hi, ho, hg2, e1, e2]
            simp [hr.1, hr.2, Bool.beq_eq_decide_eq, eq_comm]
          have HV := Lib.hid hv
          clear h hi ho hc hr hg hv hg'
          by_cases hk : k = 0
          · subst hk
            go_enter Try.func153, Try.ntmps153
            go_wp2_with fail
            refine (c_isSize _ true HI.out _).mono ?_
            rintro e w' ⟨rfl, rfl⟩
            go_wp2_with fail
            refine (c_isSize _ true HO.out _).mono ?_
            rintro e w' ⟨rfl, rfl⟩
            go_wp2_with fail
            refine (c_paramSizes 0 i o _ _ _ _ _ _ n1 n2 HC.out HR.out.1 HR.out.2 h1.out h2.out h3.out h4.out _).mono ?_
            rintro e w1 ⟨rfl, bl⟩
            have kb := Lib.hid ((Blk.new w 113 #[.int .i64 0, .int .i64 i, .int .i64 o, .slice a n ca, .slice b m cb]).below bl)
            have B1 := Lib.hid (Below.next ((Below.refl w.heap.size w).alloc (Nat.le_refl _) (.cells #[.int .i64 0, .int .i64 i, .int .i64 o, .slice a n ca, .slice b m cb] 113)) bl)
            clear bl
            obtain ⟨p0, p1, p2, p3, p4, pl⟩ := kb.out.laybox
            go_wp2
            go_ret
            exact ⟨ret_b HV.out, B1.out.alloc (Nat.le_of_lt pl) _⟩
          · have hio : i = o := by
              have := HG.out
              by_cases h : i = o
              · exact h
              · exact absurd ⟨hk, h⟩ this
            subst hio
            have g1 : (k != 0) = true := by simp [hk]
            clear hk
            go_enter Try.func153, Try.ntmps153
            go_wp2_with fail
            refine (c_isSize _ true HI.out _).mono ?_
            rintro e w' ⟨rfl, rfl⟩
            go_wp2_with fail
            refine (c_isSize _ true HO.out _).mono ?_
            rintro e w' ⟨rfl, rfl⟩
            go_wp2_with fail
            refine (c_paramSizes k i i _ _ _ _ _ _ n1 n2 HC.out HR.out.1 HR.out.2 h1.out h2.out h3.out h4.out _).mono ?_
            rintro e w1 ⟨rfl, bl⟩
            have kb := Lib.hid ((Blk.new w 113 #[.int .i64 k, .int .i64 i, .int .i64 i, .slice a n ca, .slice b m cb]).below bl)
            have B1 := Lib.hid (Below.next ((Below.refl w.heap.size w).alloc (Nat.le_refl _) (.cells #[.int .i64 k, .int .i64 i, .int .i64 i, .slice a n ca, .slice b m cb] 113)) bl)
            clear bl
            obtain ⟨p0, p1, p2, p3, p4, pl⟩ := kb.out.laybox
            go_wp2
            go_ret
            exact ⟨ret_b HV.out, B1.out.alloc (Nat.le_of_lt pl) _⟩
        · obtain rfl : v = false := by
            rw [← h, vLay]
            have : (decide (0 ≤ k) && decide (k ≤ 5)) = false := by
              by_cases h0 : 0 ≤ k
              · simp [show ¬ k ≤ 5 by omega]
              · simp [h0]
            rw [this]; simp
          have HR := Lib.hid (show k < 0 ∨ 5 < k by omega)
          have hk : k ≠ 0 := by omega
          have hio : i = o := by
            by_cases h : i = o
            · exact h
            · exact absurd ⟨hk, h⟩ hg
          subst hio
          have g1 : (k != 0) = true := by simp [hk]
          clear h hi ho hr hg hg' hk
          go_enter Try.func153, Try.ntmps153
          go_wp2_with fail
          refine (c_isSize _ true HI.out _).mono ?_
          rintro e w' ⟨rfl, rfl⟩
          go_wp2_with fail
          refine (c_isSize _ true HO.out _).mono ?_
          rintro e w' ⟨rfl, rfl⟩
          go_wp2_with fail
          refine (c_paramSizes_no k i i _ _ _ _ _ _ HR.out _).mono ?_
          rintro e w1 ⟨rfl, bl⟩
          have kb := Lib.hid ((Blk.new w 113 #[.int .i64 k, .int .i64 i, .int .i64 i, .slice a n ca, .slice b m cb]).below bl)
          have B1 := Lib.hid (Below.next ((Below.refl w.heap.size w).alloc (Nat.le_refl _) (.cells #[.int .i64 k, .int .i64 i, .int .i64 i, .slice a n ca, .slice b m cb] 113)) bl)
          clear bl
          obtain ⟨p0, p1, p2, p3, p4, pl⟩ := kb.out.laybox
          go_wp2
          go_ret
          exact ⟨rfl, B1.out.alloc (Nat.le_of_lt pl) _⟩
set_option maxHeartbeats 1000000 in
theorem c_l03Counts (g off : Nat) (k i o : Int) (n1 n2 : Int) (hc : countsOf k i o = (n1, n2)) (h0 : 0 ≤ k) (h5 : k ≤ 5) (i1 : 1 ≤ i) (i8 : i ≤ 8) (o1 : 1 ≤ o) (o8 : o ≤ 8) (w : World)
    (q0 : w.cell? ⟨g, off, none⟩ = some (.int .i64 k)) (q1 : w.cell? ⟨g, off + 1, none⟩ = some (.int .i64 i)) (q2 : w.cell? ⟨g, off + 2, none⟩ = some (.int .i64 o)) :
    Calls Try.prog 184 #[.pointer (some ⟨g, off, none⟩)] w fun e w' => e = .returned (.tuple #[.int .i64 n1, .int .i64 n2]) ∧ Drawn w w' := by
  obtain ⟨m1, m2⟩ := mul_sz i1 i8 o1 o8
  have hk : k = 0 ∨ k = 1 ∨ k = 2 ∨ k = 3 ∨ k = 4 ∨ k = 5 := by omega
  clear h0 h5
  rcases hk with rfl | rfl | rfl | rfl | rfl | rfl
  all_goals
    simp (decide := true) only [countsOf, if_false, if_true, Prod.mk.injEq] at hc
    obtain ⟨rfl, rfl⟩ := hc
    go_enter Try.func184, Try.ntmps184
    go_wp2
    try (go_quiet (fail); go_wp2)
    go_ret2
    refine ⟨?_, ?_⟩
    · first | rfl | (rw [Int.mul_comm i o]; rfl)
    · first | exact Drawn.mk _ _ | exact ⟨0, rfl⟩
set_option maxRecDepth 20000 in
set_option maxHeartbeats 2000000 in
theorem c_l03Layer (g off : Nat) (k i o : Int) (a b : Option Addr) (n m ca cb : Nat) (v : Bool) (h : vLay k i o n m = v) (hn : n ≤ 9223372036854775807) (hm : m ≤ 9223372036854775807) (w : World)
    (q0 : w.cell? ⟨g, off, none⟩ = some (.int .i64 k)) (q1 : w.cell? ⟨g, off + 1, none⟩ = some (.int .i64 i)) (q2 : w.cell? ⟨g, off + 2, none⟩ = some (.int .i64 o))
    (q3 : w.cell? ⟨g, off + 3, none⟩ = some (.slice a n ca)) (q4 : w.cell? ⟨g, off + 4, none⟩ = some (.slice b m cb)) :
    Calls Try.prog 147 #[.pointer (some ⟨g, off, none⟩)] w fun e w' => e = .returned (.bool v) ∧ Drawn w w' := by
  have H := Lib.hid h
  cases hk : (decide (0 ≤ k) && decide (k ≤ 5)) with
  | false =>
    obtain rfl : v = false := by rw [← h, vLay, hk]; simp
    have HK := Lib.hid hk
    clear h hk
    go_enter Try.func147, Try.ntmps147
    go_wp2_with fail
    refine (c_l00In _ _ _ false HK.out _).mono ?_
    rintro e w' ⟨rfl, rfl⟩
    go_wp2_with fail
    go_ret
    exact ⟨rfl, 0, rfl⟩
  | true =>
    have HK := Lib.hid hk
    cases hi : szB i with
    | false =>
      obtain rfl : v = false := by rw [← h, vLay, hi]; simp
      have HI := Lib.hid hi
      clear h hk hi
      go_enter Try.func147, Try.ntmps147
      go_wp2_with fail
      refine (c_l00In _ _ _ true HK.out _).mono ?_
      rintro e w' ⟨rfl, rfl⟩
      go_wp2_with fail
      refine (c_l00In _ _ _ false HI.out _).mono ?_
      rintro e w' ⟨rfl, rfl⟩
      go_wp2_with fail
      go_ret
      exact ⟨rfl, 0, rfl⟩
    | true =>
      have HI := Lib.hid hi
      cases ho : szB o with
      | false =>
        obtain rfl : v = false := by rw [← h, vLay, ho]; simp
        have HO := Lib.hid ho
        clear h hk hi ho
        go_enter Try.func147, Try.ntmps147
        go_wp2_with fail
        refine (c_l00In _ _ _ true HK.out _).mono ?_
        rintro e w' ⟨rfl, rfl⟩
        go_wp2_with fail
        refine (c_l00In _ _ _ true HI.out _).mono ?_
        rintro e w' ⟨rfl, rfl⟩
        go_wp2_with fail
        refine (c_l00In _ _ _ false HO.out _).mono ?_
        rintro e w' ⟨rfl, rfl⟩
        go_wp2_with fail
        go_ret
        exact ⟨rfl, 0, rfl⟩
      | true =>
        have HO := Lib.hid ho
        obtain ⟨n1, n2, hc⟩ := countsOf_some k i o
        have HC := Lib.hid hc
        have hv : ((decide (k = 0) || decide (i = o)) && ((n : Int) == n1) && ((m : Int) == n2)) = v := by
          have e1 : (countsOf k i o).1 = n1 := by rw [hc]
          have e2 : (countsOf k i o).2 = n2 := by rw [hc]
          rw [← h, vLay, hk, hi, ho, e1, e2]
          simp [Bool.beq_eq_decide_eq]
        have HV := Lib.hid hv
        have HR := Lib.hid (show 0 ≤ k ∧ k ≤ 5 by simpa using hk)
        have h1 := Lib.hid ((szB_iff i).1 hi)
        have h2 := Lib.hid ((szB_iff o).1 ho)
        clear h hk hi ho hc hv
        by_cases g0 : k = 0
        · subst g0
          go_enter Try.func147, Try.ntmps147
          go_wp2_with fail
          refine (c_l00In _ _ _ true HK.out _).mono ?_
          rintro e w' ⟨rfl, rfl⟩
          go_wp2_with fail
          refine (c_l00In _ _ _ true HI.out _).mono ?_
          rintro e w' ⟨rfl, rfl⟩
          go_wp2_with fail
          refine (c_l00In _ _ _ true HO.out _).mono ?_
          rintro e w' ⟨rfl, rfl⟩
          go_wp2_with fail
          refine (c_l03Counts _ _ 0 i o n1 n2 HC.out HR.out.1 HR.out.2 h1.out.1 h1.out.2 h2.out.1 h2.out.2 _ q0 q1 q2).mono ?_
          rintro e w' ⟨rfl, d, rfl⟩
          go_wp2_with fail
          by_cases t1 : (n : Int) = n1
          · subst t1
            go_quiet (fail)
            go_wp2
            go_ret
            exact ⟨ret_b (by rw [← HV.out]; simp), by first | exact Drawn.mk _ _ | exact ⟨_, by rw [World.drewN_drewN]⟩⟩
          · have t2 : ((n : Int) == n1) = false := by simp [t1]
            have t3 : decide ((n : Int) = n1) = false := by simp [t1]
            go_quiet (fail)
            go_wp2
            go_ret
            exact ⟨ret_b (by rw [← HV.out, t2]; simp), by first | exact Drawn.mk _ _ | exact ⟨_, by rw [World.drewN_drewN]⟩⟩
        · by_cases g1 : i = o
          · subst g1
            have e0 : (k == 0) = false := by simp [g0]
            have e0' : decide (k = 0) = false := by simp [g0]
            go_enter Try.func147, Try.ntmps147
            go_wp2_with fail
            refine (c_l00In _ _ _ true HK.out _).mono ?_
            rintro e w' ⟨rfl, rfl⟩
            go_wp2_with fail
            refine (c_l00In _ _ _ true HI.out _).mono ?_
            rintro e w' ⟨rfl, rfl⟩
            go_wp2_with fail
            refine (c_l00In _ _ _ true HO.out _).mono ?_
            rintro e w' ⟨rfl, rfl⟩
            go_wp2_with fail
            refine (c_l03Counts _ _ k i i n1 n2 HC.out HR.out.1 HR.out.2 h1.out.1 h1.out.2 h2.out.1 h2.out.2 _ q0 q1 q2).mono ?_
            rintro e w' ⟨rfl, d, rfl⟩
            go_wp2_with fail
            by_cases t1 : (n : Int) = n1
            · subst t1
              go_quiet (fail)
              go_wp2
              go_ret
              exact ⟨ret_b (by rw [← HV.out]; simp), by first | exact Drawn.mk _ _ | exact ⟨_, by rw [World.drewN_drewN]⟩⟩
            · have t2 : ((n : Int) == n1) = false := by simp [t1]
              have t3 : decide ((n : Int) = n1) = false := by simp [t1]
              go_quiet (fail)
              go_wp2
              go_ret
              exact ⟨ret_b (by rw [← HV.out, t2]; simp), by first | exact Drawn.mk _ _ | exact ⟨_, by rw [World.drewN_drewN]⟩⟩
          · have e0 : (k == 0) = false := by simp [g0]
            have e1 : (i == o) = false := by simp [g1]
            have e0' : decide (k = 0) = false := by simp [g0]
            have e1' : decide (i = o) = false := by simp [g1]
            go_enter Try.func147, Try.ntmps147
            go_wp2_with fail
            refine (c_l00In _ _ _ true HK.out _).mono ?_
            rintro e w' ⟨rfl, rfl⟩
            go_wp2_with fail
            refine (c_l00In _ _ _ true HI.out _).mono ?_
            rintro e w' ⟨rfl, rfl⟩
            go_wp2_with fail
            refine (c_l00In _ _ _ true HO.out _).mono ?_
            rintro e w' ⟨rfl, rfl⟩
            go_wp2_with fail
            refine (c_l03Counts _ _ k i o n1 n2 HC.out HR.out.1 HR.out.2 h1.out.1 h1.out.2 h2.out.1 h2.out.2 _ q0 q1 q2).mono ?_
            rintro e w' ⟨rfl, d, rfl⟩
            go_wp2_with fail
            go_quiet (fail)
            go_wp2
            go_ret
            exact ⟨ret_b (by rw [← HV.out, e0', e1']; simp), by first | exact Drawn.mk _ _ | exact ⟨_, by rw [World.drewN_drewN]⟩⟩
end Go.Proofs.Ytaipegkkpkagnaa
