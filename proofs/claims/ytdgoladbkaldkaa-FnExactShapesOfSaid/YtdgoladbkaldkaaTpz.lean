/-
  Operations of a tape: whether all fields that the kind does not name are zero, as the program says it. Conditions: none.
-/
import Derived.Test.YtdgoladbkaldkaaTpv
namespace Go.Proofs.Ytdgoladbkaldkaa
open Go.RowKit Go.Deep Go.WideShapes Go.ChangeShapes
set_option linter.unusedVariables false
set_option linter.unusedSimpArgs false

theorem tpb6 {w : World} {g : Nat} {t : TypeId} {v0 v1 v2 v3 v4 v5 : Value} (h : Blk w g t #[v0, v1, v2, v3, v4, v5]) : w.cell? ⟨g, 0, none⟩ = some v0 ∧ w.cell? ⟨g, 1, none⟩ = some v1 ∧ w.cell? ⟨g, 2, none⟩ = some v2 ∧ w.cell? ⟨g, 3, none⟩ = some v3 ∧ w.cell? ⟨g, 4, none⟩ = some v4 ∧ w.cell? ⟨g, 5, none⟩ = some v5 ∧ g < w.heap.size := ⟨h.cell 0, h.cell 1, h.cell 2, h.cell 3, h.cell 4, h.cell 5, h.lt⟩
theorem c_wordOfT (x : Nat) (w : World) : Calls Try.prog 65 #[.float .f32 x] w fun e w' => e = .returned (.int .u32 x) ∧ w = w' := by
  go_enter Try.func65, Try.ntmps65
  go_wp2
  go_ret
  exact ⟨rfl, rfl⟩
set_option maxHeartbeats 4000000 in
set_option maxRecDepth 20000 in
theorem c_hasOthersZero (kd xa xb : Int) (nu : Nat) (rw cl : Int) (a0 : Option Addr) (n0 c0 : Nat) (w : World) (hn : n0 ≤ 9223372036854775807) : Calls Try.prog 55 #[.agg #[.int .i64 kd, .int .i64 xa, .int .i64 xb, .float .f32 nu, .int .i64 rw, .int .i64 cl, .slice a0 n0 c0]] w fun e w' => e = .returned (.bool (othersZ kd xa xb nu rw cl n0)) ∧ Below w.heap.size w w' := by
  have ba := (Below.refl w.heap.size w).alloc (Nat.le_refl _) (.cells #[.int .i64 kd, .int .i64 xa, .int .i64 xb, .float .f32 nu, .int .i64 rw, .int .i64 cl, .slice a0 n0 c0] 56)
  have k := Blk.new w 56 #[.int .i64 kd, .int .i64 xa, .int .i64 xb, .float .f32 nu, .int .i64 rw, .int .i64 cl, .slice a0 n0 c0]
  have B := Lib.hid ba
  have K := Lib.hid k
  clear ba k
  go_enter Try.func55, Try.ntmps55
  go_upto_region 1 with fail
  generalize w.alloc (.cells #[.int .i64 kd, .int .i64 xa, .int .i64 xb, .float .f32 nu, .int .i64 rw, .int .i64 cl, .slice a0 n0 c0] 56) = w1 at B K ⊢
  obtain ⟨p0, p1, p2, p3, p4, p5, p6, pl⟩ := K.out.tpbox
  go_wp2_with fail
  go_region_held3 (fun w' => w'.cell? ⟨w.heap.size, 1, none⟩ = some (.int .i64 xa) ∧ w'.cell? ⟨w.heap.size, 2, none⟩ = some (.int .i64 xb) ∧ w'.cell? ⟨w.heap.size, 3, none⟩ = some (.float .f32 nu) ∧ w'.cell? ⟨w.heap.size, 4, none⟩ = some (.int .i64 rw) ∧ w'.cell? ⟨w.heap.size, 5, none⟩ = some (.int .i64 cl) ∧ w'.cell? ⟨w.heap.size, 6, none⟩ = some (.slice a0 n0 c0)) (go_keep)
    (first
      | (go_at_call 65
         refine (c_wordOfT _ _).mono ?_
         rintro e w2 ⟨rfl, rfl⟩))
  all_goals
    have bF := ((Below.refl w1.heap.size w1).alloc (Nat.le_refl _) (.cells #[.int .i64 xa, .int .i64 xb, .int .u32 nu, .int .i64 rw, .int .i64 cl, .int .i64 n0] 98)).drew
    have kF := (Blk.new w1 98 #[.int .i64 xa, .int .i64 xb, .int .u32 nu, .int .i64 rw, .int .i64 cl, .int .i64 n0]).below ((Below.refl _ _).drew)
    have S1 := Lib.hid (show w.heap.size < w1.heap.size from K.out.lt)
    have K2 := Lib.hid (K.out.below bF)
    have F2 := Lib.hid kF
    have B2 := Lib.hid (Below.next B.out bF)
    clear bF kF p0 p1 p2 p3 p4 p5 p6 pl
    generalize (w1.alloc (.cells #[.int .i64 xa, .int .i64 xb, .int .u32 nu, .int .i64 rw, .int .i64 cl, .int .i64 n0] 98)).drew = w2 at K2 F2 B2 ⊢
    obtain ⟨p0, p1, p2, p3, p4, p5, p6, pl⟩ := K2.out.tpbox
    go_wp2_with fail
    refine (c_operands kd xa xb nu rw cl a0 n0 c0 _).mono ?_
    rintro e w3 ⟨oa, oc, rfl, _, bl⟩
    have K3 := Lib.hid (K2.out.below bl)
    have F3 := Lib.hid (F2.out.below bl)
    have B3 := Lib.hid (Below.next B2.out bl)
    clear bl p0 p1 p2 p3 p4 p5 p6 pl K2 F2 B2 K B
    obtain ⟨p0, p1, p2, p3, p4, p5, p6, pl⟩ := K3.out.tpbox
    obtain ⟨q0, q1, q2, q3, q4, q5, ql⟩ := tpb6 F3.out
    have z0 := F3.out.frozen 0
    have z1 := F3.out.frozen 1
    have z2 := F3.out.frozen 2
    have z3 := F3.out.frozen 3
    have z4 := F3.out.frozen 4
    have z5 := F3.out.frozen 5
    obtain ⟨G, hG⟩ : ∃ G, w1.heap.size = G := ⟨_, rfl⟩
    have HS := Lib.hid (show w.heap.size < G by rw [← hG]; exact S1.out)
    have ne1 : ¬ G = w.heap.size := by have := HS.out; omega
    have ne2 : ¬ w.heap.size = G := by have := HS.out; omega
    rw [hG] at q0 q1 q2 q3 q4 q5 ql z0 z1 z2 z3 z4 z5 ⊢
    clear S1 F3 hG
    have hGl : w.heap.size ≤ G := by have := HS.out; omega
    have HG := Lib.hid hGl
    clear hGl
    by_cases h0 : kd = 0
    · subst h0
      rw [show opsOf 0 xa xb = [] by simp [opsOf]]
      go_wp2_with fail
      all_goals
        go_ret
        refine ⟨ret_b ?_, ?_⟩
        · simp [othersZ, tTwo, *]
        · repeat (first | exact B3.out | refine Below.setCell ?_ HG.out _)
    by_cases h5 : kd = 5
    · subst h5
      rw [show opsOf 5 xa xb = [xa] by simp [opsOf, tTwo]]
      clear h0
      go_wp2_with fail
      all_goals
        go_ret
        refine ⟨ret_b ?_, ?_⟩
        · simp [othersZ, tTwo, *]
        · repeat (first | exact B3.out | refine Below.setCell ?_ HG.out _)
    have d0 : (kd == 0) = false := beq_eq_false_iff_ne.2 h0
    have d5 : (kd == 5) = false := beq_eq_false_iff_ne.2 h5
    cases ht : tTwo kd with
    | true =>
      rw [show opsOf kd xa xb = [xa, xb] by simp [opsOf, h0, ht]]
      go_wp2_with fail
      all_goals
        go_ret
        refine ⟨ret_b ?_, ?_⟩
        · simp [othersZ, *]
        · repeat (first | exact B3.out | refine Below.setCell ?_ HG.out _)
    | false =>
      rw [show opsOf kd xa xb = [xa] by simp [opsOf, h0, ht]]
      go_wp2_with fail
      all_goals
        go_ret
        refine ⟨ret_b ?_, ?_⟩
        · simp [othersZ, *]
        · repeat (first | exact B3.out | refine Below.setCell ?_ HG.out _)
end Go.Proofs.Ytdgoladbkaldkaa
