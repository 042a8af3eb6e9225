/-
  Operations of a tape: what they name, which fields are zero, the shape behind them, in values; and the program's functions for them. Conditions: none.
-/
import Derived.Test.YtdgoladbkaldkaaTps
import Derived.Test.YtdgoladbkaldkaaInl
import Derived.Test.YtdgoladbkaldkaaVal
namespace Go.Proofs.Ytdgoladbkaldkaa
open Go.RowKit Go.Deep Go.WideShapes Go.ChangeShapes
set_option linter.unusedVariables false
set_option linter.unusedSimpArgs false

def tTwo (k : Int) : Bool := decide (k = 1) || decide (k = 2) || decide (k = 3) || decide (k = 4) || decide (k = 6)
def opsOf (kd xa xb : Int) : List Int := if kd = 0 then [] else if tTwo kd = true then [xa, xb] else [xa]
/-- all fields that the kind does not name are zero -/
def othersZ (kd xa xb : Int) (nu : Nat) (rw cl : Int) (n : Nat) : Bool := (decide (kd ≠ 0) || decide (xa = 0)) && ((tTwo kd || decide (xb = 0)) && ((decide (kd = 5) || decide (nu = 0)) && (decide (kd = 0) || (decide (rw = 0) && (decide (cl = 0) && decide (n = 0))))))
/-- the shape behind an operation, and whether those of its A and B fit -/
def shapeA (kd rw cl : Int) (n : Nat) (v w : Int × Int) : (Int × Int) × Bool :=
  if kd = 0 then ((rw, cl), vokB rw cl n) else if kd = 1 ∨ kd = 3 then (v, decide (v = w)) else if kd = 2 ∨ kd = 4 then (v, decide (w = (1, v.2))) else if kd = 6 then ((v.1, w.2), decide (v.2 = w.1)) else
  if kd = 7 then ((v.2, v.1), true) else if kd = 10 then ((1, 1), true) else if kd = 5 ∨ kd = 8 ∨ kd = 9 then (v, true) else ((0, 0), false)
theorem tTwo_iff (k : Int) : tTwo k = true ↔ k = 1 ∨ k = 2 ∨ k = 3 ∨ k = 4 ∨ k = 6 := by simp [tTwo, or_assoc]
theorem tTwo_no {k : Int} (h1 : ¬ k = 1) (h2 : ¬ k = 2) (h3 : ¬ k = 3) (h4 : ¬ k = 4) (h6 : ¬ k = 6) : tTwo k = false := by simp [tTwo, h1, h2, h3, h4, h6]
theorem inL_two (w : World) (a b : Int) : OwnL (w.alloc (.cells #[.int .i64 a, .int .i64 b] 2)) w.heap.size [inC (some ⟨w.heap.size, 0, none⟩) 2 [a, b]] := by
  simp only [inC, OwnL, Cl.Own, and_true, vs, List.map_cons, List.map_nil, Cl.v, List.length_cons, List.length_nil]
  exact ⟨by simp, .inr ⟨w.heap.size, 2, _, rfl, Nat.le_refl _, heap_alloc_new w _, Nat.le_refl _, by unfold maxLen; omega, rfl, by simp⟩⟩
theorem inL_one (w : World) (a : Int) : OwnL (w.alloc (.cells #[.int .i64 a] 2)) w.heap.size [inC (some ⟨w.heap.size, 0, none⟩) 1 [a]] := by
  simp only [inC, OwnL, Cl.Own, and_true, vs, List.map_cons, List.map_nil, Cl.v, List.length_cons, List.length_nil]
  exact ⟨by simp, .inr ⟨w.heap.size, 1, _, rfl, Nat.le_refl _, heap_alloc_new w _, Nat.le_refl _, by unfold maxLen; omega, rfl, by simp⟩⟩
theorem inL_nil (w : World) (B : Nat) : OwnL w B [inC none 0 []] := by simp [inC, OwnL, Cl.Own, vs, World.ownsRow_nil]
set_option maxHeartbeats 2000000 in
theorem c_operands (kd xa xb : Int) (nu : Nat) (rw cl : Int) (a0 : Option Addr) (n0 c0 : Nat) (w : World) : Calls Try.prog 40 #[.agg #[.int .i64 kd, .int .i64 xa, .int .i64 xb, .float .f32 nu, .int .i64 rw, .int .i64 cl, .slice a0 n0 c0]] w fun e w' => ∃ a c, e = .returned (.slice a (opsOf kd xa xb).length c) ∧ OwnL w' w.heap.size [inC a c (opsOf kd xa xb)] ∧ Below w.heap.size w w' := by
  have ba := (Below.refl w.heap.size w).alloc (Nat.le_refl _) (.cells #[.int .i64 kd, .int .i64 xa, .int .i64 xb, .float .f32 nu, .int .i64 rw, .int .i64 cl, .slice a0 n0 c0] 56)
  have k := Blk.new w 56 #[.int .i64 kd, .int .i64 xa, .int .i64 xb, .float .f32 nu, .int .i64 rw, .int .i64 cl, .slice a0 n0 c0]
  have B := Lib.hid ba
  have K := Lib.hid k
  clear ba k
  by_cases h0 : kd = 0
  · subst h0
    rw [show opsOf 0 xa xb = [] by simp [opsOf]]
    go_enter Try.func40, Try.ntmps40
    go_upto_region 1 with fail
    generalize w.alloc (.cells #[.int .i64 0, .int .i64 xa, .int .i64 xb, .float .f32 nu, .int .i64 rw, .int .i64 cl, .slice a0 n0 c0] 56) = w1 at B K ⊢
    obtain ⟨p0, p1, p2, p3, p4, p5, p6, pl⟩ := K.out.tpbox
    go_wp2_with fail
    go_ret
    exact ⟨none, 0, rfl, inL_nil _ _, B.out⟩
  have d0 : (kd == 0) = false := beq_eq_false_iff_ne.2 h0
  by_cases h1 : kd = 1
  · subst h1
    rw [show opsOf 1 xa xb = [xa, xb] by simp [opsOf, tTwo]]
    clear d0 h0 
    go_enter Try.func40, Try.ntmps40
    go_upto_region 1 with fail
    generalize w.alloc (.cells #[.int .i64 1, .int .i64 xa, .int .i64 xb, .float .f32 nu, .int .i64 rw, .int .i64 cl, .slice a0 n0 c0] 56) = w1 at B K ⊢
    obtain ⟨p0, p1, p2, p3, p4, p5, p6, pl⟩ := K.out.tpbox
    go_wp2_with fail
    go_ret
    exact ⟨some ⟨w1.heap.size, 0, none⟩, 2, rfl, OwnL.base B.out.size _ (inL_two w1 xa xb), B.out.alloc (by have := B.out.size; omega) _⟩
  have d1 : (kd == 1) = false := beq_eq_false_iff_ne.2 h1
  by_cases h2 : kd = 2
  · subst h2
    rw [show opsOf 2 xa xb = [xa, xb] by simp [opsOf, tTwo]]
    clear d0 h0 h1 d1
    go_enter Try.func40, Try.ntmps40
    go_upto_region 1 with fail
    generalize w.alloc (.cells #[.int .i64 2, .int .i64 xa, .int .i64 xb, .float .f32 nu, .int .i64 rw, .int .i64 cl, .slice a0 n0 c0] 56) = w1 at B K ⊢
    obtain ⟨p0, p1, p2, p3, p4, p5, p6, pl⟩ := K.out.tpbox
    go_wp2_with fail
    go_ret
    exact ⟨some ⟨w1.heap.size, 0, none⟩, 2, rfl, OwnL.base B.out.size _ (inL_two w1 xa xb), B.out.alloc (by have := B.out.size; omega) _⟩
  have d2 : (kd == 2) = false := beq_eq_false_iff_ne.2 h2
  by_cases h3 : kd = 3
  · subst h3
    rw [show opsOf 3 xa xb = [xa, xb] by simp [opsOf, tTwo]]
    clear d0 h0 h1 d1 h2 d2
    go_enter Try.func40, Try.ntmps40
    go_upto_region 1 with fail
    generalize w.alloc (.cells #[.int .i64 3, .int .i64 xa, .int .i64 xb, .float .f32 nu, .int .i64 rw, .int .i64 cl, .slice a0 n0 c0] 56) = w1 at B K ⊢
    obtain ⟨p0, p1, p2, p3, p4, p5, p6, pl⟩ := K.out.tpbox
    go_wp2_with fail
    go_ret
    exact ⟨some ⟨w1.heap.size, 0, none⟩, 2, rfl, OwnL.base B.out.size _ (inL_two w1 xa xb), B.out.alloc (by have := B.out.size; omega) _⟩
  have d3 : (kd == 3) = false := beq_eq_false_iff_ne.2 h3
  by_cases h4 : kd = 4
  · subst h4
    rw [show opsOf 4 xa xb = [xa, xb] by simp [opsOf, tTwo]]
    clear d0 h0 h1 d1 h2 d2 h3 d3
    go_enter Try.func40, Try.ntmps40
    go_upto_region 1 with fail
    generalize w.alloc (.cells #[.int .i64 4, .int .i64 xa, .int .i64 xb, .float .f32 nu, .int .i64 rw, .int .i64 cl, .slice a0 n0 c0] 56) = w1 at B K ⊢
    obtain ⟨p0, p1, p2, p3, p4, p5, p6, pl⟩ := K.out.tpbox
    go_wp2_with fail
    go_ret
    exact ⟨some ⟨w1.heap.size, 0, none⟩, 2, rfl, OwnL.base B.out.size _ (inL_two w1 xa xb), B.out.alloc (by have := B.out.size; omega) _⟩
  have d4 : (kd == 4) = false := beq_eq_false_iff_ne.2 h4
  by_cases h6 : kd = 6
  · subst h6
    rw [show opsOf 6 xa xb = [xa, xb] by simp [opsOf, tTwo]]
    clear d0 h0 h1 d1 h2 d2 h3 d3 h4 d4
    go_enter Try.func40, Try.ntmps40
    go_upto_region 1 with fail
    generalize w.alloc (.cells #[.int .i64 6, .int .i64 xa, .int .i64 xb, .float .f32 nu, .int .i64 rw, .int .i64 cl, .slice a0 n0 c0] 56) = w1 at B K ⊢
    obtain ⟨p0, p1, p2, p3, p4, p5, p6, pl⟩ := K.out.tpbox
    go_wp2_with fail
    go_ret
    exact ⟨some ⟨w1.heap.size, 0, none⟩, 2, rfl, OwnL.base B.out.size _ (inL_two w1 xa xb), B.out.alloc (by have := B.out.size; omega) _⟩
  have d6 : (kd == 6) = false := beq_eq_false_iff_ne.2 h6
  rw [show opsOf kd xa xb = [xa] by simp [opsOf, h0, tTwo_no h1 h2 h3 h4 h6]]
  go_enter Try.func40, Try.ntmps40
  go_upto_region 1 with fail
  generalize w.alloc (.cells #[.int .i64 kd, .int .i64 xa, .int .i64 xb, .float .f32 nu, .int .i64 rw, .int .i64 cl, .slice a0 n0 c0] 56) = w1 at B K ⊢
  obtain ⟨p0, p1, p2, p3, p4, p5, p6, pl⟩ := K.out.tpbox
  go_wp2_with fail
  go_ret
  exact ⟨some ⟨w1.heap.size, 0, none⟩, 1, rfl, OwnL.base B.out.size _ (inL_one w1 xa), B.out.alloc (by have := B.out.size; omega) _⟩
end Go.Proofs.Ytdgoladbkaldkaa
