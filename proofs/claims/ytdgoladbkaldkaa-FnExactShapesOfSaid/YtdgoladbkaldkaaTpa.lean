/-
  Operations of a tape: the shape behind an operation, as the program says it. Conditions: none.
-/
import Derived.Test.YtdgoladbkaldkaaTpz
namespace Go.Proofs.Ytdgoladbkaldkaa
open Go.RowKit Go.Deep Go.WideShapes Go.ChangeShapes
set_option linter.unusedVariables false
set_option linter.unusedSimpArgs false

def RetShape (r : (Int × Int) × Bool) (w : World) (e : Ending) (w' : World) : Prop := e = .returned (.tuple #[.agg #[.int .i64 r.1.1, .int .i64 r.1.2], .bool r.2]) ∧ Below w.heap.size w w'
theorem tpb2 {w : World} {g : Nat} {t : TypeId} {v0 v1 : Value} (h : Blk w g t #[v0, v1]) : w.cell? ⟨g, 0, none⟩ = some v0 ∧ w.cell? ⟨g, 1, none⟩ = some v1 ∧ g < w.heap.size := ⟨h.cell 0, h.cell 1, h.lt⟩
set_option maxHeartbeats 4000000 in
set_option maxRecDepth 20000 in
theorem c_shapeAfter (kd xa xb : Int) (nu : Nat) (rw cl : Int) (a0 : Option Addr) (n0 c0 : Nat) (v1 v2 u1 u2 : Int) (w : World) (hn : n0 ≤ 9223372036854775807) :
    Calls Try.prog 57 #[.agg #[.int .i64 kd, .int .i64 xa, .int .i64 xb, .float .f32 nu, .int .i64 rw, .int .i64 cl, .slice a0 n0 c0], .agg #[.int .i64 v1, .int .i64 v2], .agg #[.int .i64 u1, .int .i64 u2]] w (RetShape (shapeA kd rw cl n0 (v1, v2) (u1, u2)) w) := by
  have b1 := (Below.refl w.heap.size w).alloc (Nat.le_refl _) (.cells #[.int .i64 kd, .int .i64 xa, .int .i64 xb, .float .f32 nu, .int .i64 rw, .int .i64 cl, .slice a0 n0 c0] 56)
  have b2 := (Below.refl (w.alloc (.cells #[.int .i64 kd, .int .i64 xa, .int .i64 xb, .float .f32 nu, .int .i64 rw, .int .i64 cl, .slice a0 n0 c0] 56)).heap.size (w.alloc (.cells #[.int .i64 kd, .int .i64 xa, .int .i64 xb, .float .f32 nu, .int .i64 rw, .int .i64 cl, .slice a0 n0 c0] 56))).alloc (Nat.le_refl _) (.cells #[.int .i64 v1, .int .i64 v2] 66)
  have b3 := (Below.refl ((w.alloc (.cells #[.int .i64 kd, .int .i64 xa, .int .i64 xb, .float .f32 nu, .int .i64 rw, .int .i64 cl, .slice a0 n0 c0] 56)).alloc (.cells #[.int .i64 v1, .int .i64 v2] 66)).heap.size ((w.alloc (.cells #[.int .i64 kd, .int .i64 xa, .int .i64 xb, .float .f32 nu, .int .i64 rw, .int .i64 cl, .slice a0 n0 c0] 56)).alloc (.cells #[.int .i64 v1, .int .i64 v2] 66))).alloc (Nat.le_refl _) (.cells #[.int .i64 u1, .int .i64 u2] 66)
  have b4 := (Below.refl (((w.alloc (.cells #[.int .i64 kd, .int .i64 xa, .int .i64 xb, .float .f32 nu, .int .i64 rw, .int .i64 cl, .slice a0 n0 c0] 56)).alloc (.cells #[.int .i64 v1, .int .i64 v2] 66)).alloc (.cells #[.int .i64 u1, .int .i64 u2] 66)).heap.size (((w.alloc (.cells #[.int .i64 kd, .int .i64 xa, .int .i64 xb, .float .f32 nu, .int .i64 rw, .int .i64 cl, .slice a0 n0 c0] 56)).alloc (.cells #[.int .i64 v1, .int .i64 v2] 66)).alloc (.cells #[.int .i64 u1, .int .i64 u2] 66))).alloc (Nat.le_refl _) (.cells #[.int .i64 0, .int .i64 0] 66)
  have k1 := ((Blk.new w 56 #[.int .i64 kd, .int .i64 xa, .int .i64 xb, .float .f32 nu, .int .i64 rw, .int .i64 cl, .slice a0 n0 c0]).below b2).below (Below.next b3 b4)
  have k2 := (Blk.new (w.alloc (.cells #[.int .i64 kd, .int .i64 xa, .int .i64 xb, .float .f32 nu, .int .i64 rw, .int .i64 cl, .slice a0 n0 c0] 56)) 66 #[.int .i64 v1, .int .i64 v2]).below (Below.next b3 b4)
  have k3 := (Blk.new ((w.alloc (.cells #[.int .i64 kd, .int .i64 xa, .int .i64 xb, .float .f32 nu, .int .i64 rw, .int .i64 cl, .slice a0 n0 c0] 56)).alloc (.cells #[.int .i64 v1, .int .i64 v2] 66)) 66 #[.int .i64 u1, .int .i64 u2]).below b4
  have k4 := Blk.new (((w.alloc (.cells #[.int .i64 kd, .int .i64 xa, .int .i64 xb, .float .f32 nu, .int .i64 rw, .int .i64 cl, .slice a0 n0 c0] 56)).alloc (.cells #[.int .i64 v1, .int .i64 v2] 66)).alloc (.cells #[.int .i64 u1, .int .i64 u2] 66)) 66 #[.int .i64 0, .int .i64 0]
  simp only [World.size_alloc] at k2 k3 k4
  have B := Lib.hid (Below.next (Below.next b1 b2) (Below.next b3 b4))
  have K := Lib.hid k1
  have V := Lib.hid k2
  have U := Lib.hid k3
  have R := Lib.hid k4
  clear b1 b2 b3 b4 k1 k2 k3 k4
  by_cases h0 : kd = 0
  · subst h0
    have HR := Lib.hid (show shapeA 0 rw cl n0 (v1, v2) (u1, u2) = ((rw, cl), vokB rw cl n0) by simp [shapeA, *])
    rw [HR.out]
    go_enter Try.func57, Try.ntmps57
    go_upto_region 1 with fail
    generalize (((w.alloc (.cells #[.int .i64 0, .int .i64 xa, .int .i64 xb, .float .f32 nu, .int .i64 rw, .int .i64 cl, .slice a0 n0 c0] 56)).alloc (.cells #[.int .i64 v1, .int .i64 v2] 66)).alloc (.cells #[.int .i64 u1, .int .i64 u2] 66)).alloc (.cells #[.int .i64 0, .int .i64 0] 66) = W at B K V U R ⊢
    obtain ⟨p0, p1, p2, p3, p4, p5, p6, pl⟩ := K.out.tpbox
    obtain ⟨x0, x1, xl⟩ := tpb2 V.out
    obtain ⟨y0, y1, yl⟩ := tpb2 U.out
    obtain ⟨r0, r1, rl⟩ := tpb2 R.out
    obtain ⟨S3, hS3⟩ : ∃ S, w.heap.size + 1 + 1 + 1 = S := ⟨_, rfl⟩
    have n0' : ¬ S3 = w.heap.size := by omega
    have n0r : ¬ w.heap.size = S3 := by omega
    have n1' : ¬ S3 = w.heap.size + 1 := by omega
    have n1r : ¬ w.heap.size + 1 = S3 := by omega
    have n2' : ¬ S3 = w.heap.size + 1 + 1 := by omega
    have n2r : ¬ w.heap.size + 1 + 1 = S3 := by omega
    have HS3 := Lib.hid (show w.heap.size ≤ S3 by omega)
    have R' := R.out
    rw [hS3] at R' r0 r1 rl ⊢
    have R3 := Lib.hid R'
    have e0 := R'.frozen 0
    have e1 := R'.frozen 1
    clear hS3 R'
    go_wp2_with fail
    go_region_held3 (fun w' => w'.cell? ⟨w.heap.size, 4, none⟩ = some (.int .i64 rw) ∧ w'.cell? ⟨w.heap.size, 5, none⟩ = some (.int .i64 cl) ∧ w'.cell? ⟨w.heap.size, 6, none⟩ = some (.slice a0 n0 c0)) (go_keep)
      (first
        | (go_at_call 64
           refine (c_iValid rw cl a0 n0 c0 _ rfl _).mono ?_
           rintro e W2 ⟨rfl, bl⟩
           have bb := Below.next ((Below.refl W.heap.size W).drew) bl
           have B2 := Lib.hid (Below.next B.out bb)
           have K2 := K.out.below bb
           have R2 := R3.out.below bb
           clear p0 p1 p2 p3 p4 p5 p6 pl x0 x1 xl y0 y1 yl r0 r1 rl e0 e1 bl bb
           obtain ⟨p0, p1, p2, p3, p4, p5, p6, pl⟩ := K2.tpbox
           obtain ⟨r0, r1, rl⟩ := tpb2 R2
           have e0 := R2.frozen 0
           have e1 := R2.frozen 1
           clear K2 R2))
    go_wp2_with fail
    refine bodyPost_ret (v := .tuple #[.agg #[.int .i64 rw, .int .i64 cl], .bool (vokB rw cl n0)]) (by simp [results, Try.results57, go_sem, r0, r1]) rfl ⟨rfl, ?_⟩
    repeat (first | exact B2.out | refine Below.setCell ?_ HS3.out _ | refine Below.drew ?_)
  have d0 : (kd == 0) = false := beq_eq_false_iff_ne.2 h0
  by_cases h1 : kd = 1
  · subst h1
    clear h0 d0
    by_cases g1 : v1 = u1
    · by_cases g2 : v2 = u2
      · subst g1 g2
        have HR := Lib.hid (show shapeA 1 rw cl n0 (v1, v2) (v1, v2) = ((v1, v2), true) by simp [shapeA, *])
        rw [HR.out]
        go_enter Try.func57, Try.ntmps57
        go_upto_region 1 with fail
        generalize (((w.alloc (.cells #[.int .i64 1, .int .i64 xa, .int .i64 xb, .float .f32 nu, .int .i64 rw, .int .i64 cl, .slice a0 n0 c0] 56)).alloc (.cells #[.int .i64 v1, .int .i64 v2] 66)).alloc (.cells #[.int .i64 v1, .int .i64 v2] 66)).alloc (.cells #[.int .i64 0, .int .i64 0] 66) = W at B K V U R ⊢
        obtain ⟨p0, p1, p2, p3, p4, p5, p6, pl⟩ := K.out.tpbox
        obtain ⟨x0, x1, xl⟩ := tpb2 V.out
        obtain ⟨y0, y1, yl⟩ := tpb2 U.out
        obtain ⟨r0, r1, rl⟩ := tpb2 R.out
        obtain ⟨S3, hS3⟩ : ∃ S, w.heap.size + 1 + 1 + 1 = S := ⟨_, rfl⟩
        have n0' : ¬ S3 = w.heap.size := by omega
        have n0r : ¬ w.heap.size = S3 := by omega
        have n1' : ¬ S3 = w.heap.size + 1 := by omega
        have n1r : ¬ w.heap.size + 1 = S3 := by omega
        have n2' : ¬ S3 = w.heap.size + 1 + 1 := by omega
        have n2r : ¬ w.heap.size + 1 + 1 = S3 := by omega
        have HS3 := Lib.hid (show w.heap.size ≤ S3 by omega)
        have R' := R.out
        rw [hS3] at R' r0 r1 rl ⊢
        have R3 := Lib.hid R'
        have e0 := R'.frozen 0
        have e1 := R'.frozen 1
        clear hS3 R'
        go_wp2_with fail
        go_region_held3 (fun w' => w'.cell? ⟨w.heap.size + 1, 0, none⟩ = some (.int .i64 v1) ∧ w'.cell? ⟨w.heap.size + 1, 1, none⟩ = some (.int .i64 v2) ∧ w'.cell? ⟨w.heap.size + 1 + 1, 0, none⟩ = some (.int .i64 v1) ∧ w'.cell? ⟨w.heap.size + 1 + 1, 1, none⟩ = some (.int .i64 v2)) (go_keep)
          (fail)
        go_wp2_with fail
        refine bodyPost_ret (v := .tuple #[.agg #[.int .i64 v1, .int .i64 v2], .bool (true)]) (by simp [results, Try.results57, go_sem, r0, r1]) rfl ⟨rfl, ?_⟩
        repeat (first | exact B.out | refine Below.setCell ?_ HS3.out _ | refine Below.drew ?_)
      · have n2 : (v2 == u2) = false := beq_eq_false_iff_ne.2 g2
        subst g1
        have HR := Lib.hid (show shapeA 1 rw cl n0 (v1, v2) (v1, u2) = ((v1, v2), false) by simp [shapeA, *])
        rw [HR.out]
        go_enter Try.func57, Try.ntmps57
        go_upto_region 1 with fail
        generalize (((w.alloc (.cells #[.int .i64 1, .int .i64 xa, .int .i64 xb, .float .f32 nu, .int .i64 rw, .int .i64 cl, .slice a0 n0 c0] 56)).alloc (.cells #[.int .i64 v1, .int .i64 v2] 66)).alloc (.cells #[.int .i64 v1, .int .i64 u2] 66)).alloc (.cells #[.int .i64 0, .int .i64 0] 66) = W at B K V U R ⊢
        obtain ⟨p0, p1, p2, p3, p4, p5, p6, pl⟩ := K.out.tpbox
        obtain ⟨x0, x1, xl⟩ := tpb2 V.out
        obtain ⟨y0, y1, yl⟩ := tpb2 U.out
        obtain ⟨r0, r1, rl⟩ := tpb2 R.out
        obtain ⟨S3, hS3⟩ : ∃ S, w.heap.size + 1 + 1 + 1 = S := ⟨_, rfl⟩
        have n0' : ¬ S3 = w.heap.size := by omega
        have n0r : ¬ w.heap.size = S3 := by omega
        have n1' : ¬ S3 = w.heap.size + 1 := by omega
        have n1r : ¬ w.heap.size + 1 = S3 := by omega
        have n2' : ¬ S3 = w.heap.size + 1 + 1 := by omega
        have n2r : ¬ w.heap.size + 1 + 1 = S3 := by omega
        have HS3 := Lib.hid (show w.heap.size ≤ S3 by omega)
        have R' := R.out
        rw [hS3] at R' r0 r1 rl ⊢
        have R3 := Lib.hid R'
        have e0 := R'.frozen 0
        have e1 := R'.frozen 1
        clear hS3 R'
        go_wp2_with fail
        go_region_held3 (fun w' => w'.cell? ⟨w.heap.size + 1, 0, none⟩ = some (.int .i64 v1) ∧ w'.cell? ⟨w.heap.size + 1, 1, none⟩ = some (.int .i64 v2) ∧ w'.cell? ⟨w.heap.size + 1 + 1, 0, none⟩ = some (.int .i64 v1) ∧ w'.cell? ⟨w.heap.size + 1 + 1, 1, none⟩ = some (.int .i64 u2)) (go_keep)
          (fail)
        go_wp2_with fail
        refine bodyPost_ret (v := .tuple #[.agg #[.int .i64 v1, .int .i64 v2], .bool (false)]) (by simp [results, Try.results57, go_sem, r0, r1]) rfl ⟨rfl, ?_⟩
        repeat (first | exact B.out | refine Below.setCell ?_ HS3.out _ | refine Below.drew ?_)
    · have n1 : (v1 == u1) = false := beq_eq_false_iff_ne.2 g1
      have HR := Lib.hid (show shapeA 1 rw cl n0 (v1, v2) (u1, u2) = ((v1, v2), false) by simp [shapeA, *])
      rw [HR.out]
      go_enter Try.func57, Try.ntmps57
      go_upto_region 1 with fail
      generalize (((w.alloc (.cells #[.int .i64 1, .int .i64 xa, .int .i64 xb, .float .f32 nu, .int .i64 rw, .int .i64 cl, .slice a0 n0 c0] 56)).alloc (.cells #[.int .i64 v1, .int .i64 v2] 66)).alloc (.cells #[.int .i64 u1, .int .i64 u2] 66)).alloc (.cells #[.int .i64 0, .int .i64 0] 66) = W at B K V U R ⊢
      obtain ⟨p0, p1, p2, p3, p4, p5, p6, pl⟩ := K.out.tpbox
      obtain ⟨x0, x1, xl⟩ := tpb2 V.out
      obtain ⟨y0, y1, yl⟩ := tpb2 U.out
      obtain ⟨r0, r1, rl⟩ := tpb2 R.out
      obtain ⟨S3, hS3⟩ : ∃ S, w.heap.size + 1 + 1 + 1 = S := ⟨_, rfl⟩
      have n0' : ¬ S3 = w.heap.size := by omega
      have n0r : ¬ w.heap.size = S3 := by omega
      have n1' : ¬ S3 = w.heap.size + 1 := by omega
      have n1r : ¬ w.heap.size + 1 = S3 := by omega
      have n2' : ¬ S3 = w.heap.size + 1 + 1 := by omega
      have n2r : ¬ w.heap.size + 1 + 1 = S3 := by omega
      have HS3 := Lib.hid (show w.heap.size ≤ S3 by omega)
      have R' := R.out
      rw [hS3] at R' r0 r1 rl ⊢
      have R3 := Lib.hid R'
      have e0 := R'.frozen 0
      have e1 := R'.frozen 1
      clear hS3 R'
      go_wp2_with fail
      go_region_held3 (fun w' => w'.cell? ⟨w.heap.size + 1, 0, none⟩ = some (.int .i64 v1) ∧ w'.cell? ⟨w.heap.size + 1, 1, none⟩ = some (.int .i64 v2) ∧ w'.cell? ⟨w.heap.size + 1 + 1, 0, none⟩ = some (.int .i64 u1) ∧ w'.cell? ⟨w.heap.size + 1 + 1, 1, none⟩ = some (.int .i64 u2)) (go_keep)
        (fail)
      go_wp2_with fail
      refine bodyPost_ret (v := .tuple #[.agg #[.int .i64 v1, .int .i64 v2], .bool (false)]) (by simp [results, Try.results57, go_sem, r0, r1]) rfl ⟨rfl, ?_⟩
      repeat (first | exact B.out | refine Below.setCell ?_ HS3.out _ | refine Below.drew ?_)
  have d1 : (kd == 1) = false := beq_eq_false_iff_ne.2 h1
  by_cases h3 : kd = 3
  · subst h3
    clear h0 d0 h1 d1
    by_cases g1 : v1 = u1
    · by_cases g2 : v2 = u2
      · subst g1 g2
        have HR := Lib.hid (show shapeA 3 rw cl n0 (v1, v2) (v1, v2) = ((v1, v2), true) by simp [shapeA, *])
        rw [HR.out]
        go_enter Try.func57, Try.ntmps57
        go_upto_region 1 with fail
        generalize (((w.alloc (.cells #[.int .i64 3, .int .i64 xa, .int .i64 xb, .float .f32 nu, .int .i64 rw, .int .i64 cl, .slice a0 n0 c0] 56)).alloc (.cells #[.int .i64 v1, .int .i64 v2] 66)).alloc (.cells #[.int .i64 v1, .int .i64 v2] 66)).alloc (.cells #[.int .i64 0, .int .i64 0] 66) = W at B K V U R ⊢
        obtain ⟨p0, p1, p2, p3, p4, p5, p6, pl⟩ := K.out.tpbox
        obtain ⟨x0, x1, xl⟩ := tpb2 V.out
        obtain ⟨y0, y1, yl⟩ := tpb2 U.out
        obtain ⟨r0, r1, rl⟩ := tpb2 R.out
        obtain ⟨S3, hS3⟩ : ∃ S, w.heap.size + 1 + 1 + 1 = S := ⟨_, rfl⟩
        have n0' : ¬ S3 = w.heap.size := by omega
        have n0r : ¬ w.heap.size = S3 := by omega
        have n1' : ¬ S3 = w.heap.size + 1 := by omega
        have n1r : ¬ w.heap.size + 1 = S3 := by omega
        have n2' : ¬ S3 = w.heap.size + 1 + 1 := by omega
        have n2r : ¬ w.heap.size + 1 + 1 = S3 := by omega
        have HS3 := Lib.hid (show w.heap.size ≤ S3 by omega)
        have R' := R.out
        rw [hS3] at R' r0 r1 rl ⊢
        have R3 := Lib.hid R'
        have e0 := R'.frozen 0
        have e1 := R'.frozen 1
        clear hS3 R'
        go_wp2_with fail
        go_region_held3 (fun w' => w'.cell? ⟨w.heap.size + 1, 0, none⟩ = some (.int .i64 v1) ∧ w'.cell? ⟨w.heap.size + 1, 1, none⟩ = some (.int .i64 v2) ∧ w'.cell? ⟨w.heap.size + 1 + 1, 0, none⟩ = some (.int .i64 v1) ∧ w'.cell? ⟨w.heap.size + 1 + 1, 1, none⟩ = some (.int .i64 v2)) (go_keep)
          (fail)
        go_wp2_with fail
        refine bodyPost_ret (v := .tuple #[.agg #[.int .i64 v1, .int .i64 v2], .bool (true)]) (by simp [results, Try.results57, go_sem, r0, r1]) rfl ⟨rfl, ?_⟩
        repeat (first | exact B.out | refine Below.setCell ?_ HS3.out _ | refine Below.drew ?_)
      · have n2 : (v2 == u2) = false := beq_eq_false_iff_ne.2 g2
        subst g1
        have HR := Lib.hid (show shapeA 3 rw cl n0 (v1, v2) (v1, u2) = ((v1, v2), false) by simp [shapeA, *])
        rw [HR.out]
        go_enter Try.func57, Try.ntmps57
        go_upto_region 1 with fail
        generalize (((w.alloc (.cells #[.int .i64 3, .int .i64 xa, .int .i64 xb, .float .f32 nu, .int .i64 rw, .int .i64 cl, .slice a0 n0 c0] 56)).alloc (.cells #[.int .i64 v1, .int .i64 v2] 66)).alloc (.cells #[.int .i64 v1, .int .i64 u2] 66)).alloc (.cells #[.int .i64 0, .int .i64 0] 66) = W at B K V U R ⊢
        obtain ⟨p0, p1, p2, p3, p4, p5, p6, pl⟩ := K.out.tpbox
        obtain ⟨x0, x1, xl⟩ := tpb2 V.out
        obtain ⟨y0, y1, yl⟩ := tpb2 U.out
        obtain ⟨r0, r1, rl⟩ := tpb2 R.out
        obtain ⟨S3, hS3⟩ : ∃ S, w.heap.size + 1 + 1 + 1 = S := ⟨_, rfl⟩
        have n0' : ¬ S3 = w.heap.size := by omega
        have n0r : ¬ w.heap.size = S3 := by omega
        have n1' : ¬ S3 = w.heap.size + 1 := by omega
        have n1r : ¬ w.heap.size + 1 = S3 := by omega
        have n2' : ¬ S3 = w.heap.size + 1 + 1 := by omega
        have n2r : ¬ w.heap.size + 1 + 1 = S3 := by omega
        have HS3 := Lib.hid (show w.heap.size ≤ S3 by omega)
        have R' := R.out
        rw [hS3] at R' r0 r1 rl ⊢
        have R3 := Lib.hid R'
        have e0 := R'.frozen 0
        have e1 := R'.frozen 1
        clear hS3 R'
        go_wp2_with fail
        go_region_held3 (fun w' => w'.cell? ⟨w.heap.size + 1, 0, none⟩ = some (.int .i64 v1) ∧ w'.cell? ⟨w.heap.size + 1, 1, none⟩ = some (.int .i64 v2) ∧ w'.cell? ⟨w.heap.size + 1 + 1, 0, none⟩ = some (.int .i64 v1) ∧ w'.cell? ⟨w.heap.size + 1 + 1, 1, none⟩ = some (.int .i64 u2)) (go_keep)
          (fail)
        go_wp2_with fail
        refine bodyPost_ret (v := .tuple #[.agg #[.int .i64 v1, .int .i64 v2], .bool (false)]) (by simp [results, Try.results57, go_sem, r0, r1]) rfl ⟨rfl, ?_⟩
        repeat (first | exact B.out | refine Below.setCell ?_ HS3.out _ | refine Below.drew ?_)
    · have n1 : (v1 == u1) = false := beq_eq_false_iff_ne.2 g1
      have HR := Lib.hid (show shapeA 3 rw cl n0 (v1, v2) (u1, u2) = ((v1, v2), false) by simp [shapeA, *])
      rw [HR.out]
      go_enter Try.func57, Try.ntmps57
      go_upto_region 1 with fail
      generalize (((w.alloc (.cells #[.int .i64 3, .int .i64 xa, .int .i64 xb, .float .f32 nu, .int .i64 rw, .int .i64 cl, .slice a0 n0 c0] 56)).alloc (.cells #[.int .i64 v1, .int .i64 v2] 66)).alloc (.cells #[.int .i64 u1, .int .i64 u2] 66)).alloc (.cells #[.int .i64 0, .int .i64 0] 66) = W at B K V U R ⊢
      obtain ⟨p0, p1, p2, p3, p4, p5, p6, pl⟩ := K.out.tpbox
      obtain ⟨x0, x1, xl⟩ := tpb2 V.out
      obtain ⟨y0, y1, yl⟩ := tpb2 U.out
      obtain ⟨r0, r1, rl⟩ := tpb2 R.out
      obtain ⟨S3, hS3⟩ : ∃ S, w.heap.size + 1 + 1 + 1 = S := ⟨_, rfl⟩
      have n0' : ¬ S3 = w.heap.size := by omega
      have n0r : ¬ w.heap.size = S3 := by omega
      have n1' : ¬ S3 = w.heap.size + 1 := by omega
      have n1r : ¬ w.heap.size + 1 = S3 := by omega
      have n2' : ¬ S3 = w.heap.size + 1 + 1 := by omega
      have n2r : ¬ w.heap.size + 1 + 1 = S3 := by omega
      have HS3 := Lib.hid (show w.heap.size ≤ S3 by omega)
      have R' := R.out
      rw [hS3] at R' r0 r1 rl ⊢
      have R3 := Lib.hid R'
      have e0 := R'.frozen 0
      have e1 := R'.frozen 1
      clear hS3 R'
      go_wp2_with fail
      go_region_held3 (fun w' => w'.cell? ⟨w.heap.size + 1, 0, none⟩ = some (.int .i64 v1) ∧ w'.cell? ⟨w.heap.size + 1, 1, none⟩ = some (.int .i64 v2) ∧ w'.cell? ⟨w.heap.size + 1 + 1, 0, none⟩ = some (.int .i64 u1) ∧ w'.cell? ⟨w.heap.size + 1 + 1, 1, none⟩ = some (.int .i64 u2)) (go_keep)
        (fail)
      go_wp2_with fail
      refine bodyPost_ret (v := .tuple #[.agg #[.int .i64 v1, .int .i64 v2], .bool (false)]) (by simp [results, Try.results57, go_sem, r0, r1]) rfl ⟨rfl, ?_⟩
      repeat (first | exact B.out | refine Below.setCell ?_ HS3.out _ | refine Below.drew ?_)
  have d3 : (kd == 3) = false := beq_eq_false_iff_ne.2 h3
  by_cases h2 : kd = 2
  · subst h2
    clear h0 d0 h1 d1 h3 d3
    by_cases g1 : u1 = 1
    · by_cases g2 : u2 = v2
      · subst g1 g2
        have HR := Lib.hid (show shapeA 2 rw cl n0 (v1, u2) (1, u2) = ((v1, u2), true) by simp [shapeA, *])
        rw [HR.out]
        go_enter Try.func57, Try.ntmps57
        go_upto_region 1 with fail
        generalize (((w.alloc (.cells #[.int .i64 2, .int .i64 xa, .int .i64 xb, .float .f32 nu, .int .i64 rw, .int .i64 cl, .slice a0 n0 c0] 56)).alloc (.cells #[.int .i64 v1, .int .i64 u2] 66)).alloc (.cells #[.int .i64 1, .int .i64 u2] 66)).alloc (.cells #[.int .i64 0, .int .i64 0] 66) = W at B K V U R ⊢
        obtain ⟨p0, p1, p2, p3, p4, p5, p6, pl⟩ := K.out.tpbox
        obtain ⟨x0, x1, xl⟩ := tpb2 V.out
        obtain ⟨y0, y1, yl⟩ := tpb2 U.out
        obtain ⟨r0, r1, rl⟩ := tpb2 R.out
        obtain ⟨S3, hS3⟩ : ∃ S, w.heap.size + 1 + 1 + 1 = S := ⟨_, rfl⟩
        have n0' : ¬ S3 = w.heap.size := by omega
        have n0r : ¬ w.heap.size = S3 := by omega
        have n1' : ¬ S3 = w.heap.size + 1 := by omega
        have n1r : ¬ w.heap.size + 1 = S3 := by omega
        have n2' : ¬ S3 = w.heap.size + 1 + 1 := by omega
        have n2r : ¬ w.heap.size + 1 + 1 = S3 := by omega
        have HS3 := Lib.hid (show w.heap.size ≤ S3 by omega)
        have R' := R.out
        rw [hS3] at R' r0 r1 rl ⊢
        have R3 := Lib.hid R'
        have e0 := R'.frozen 0
        have e1 := R'.frozen 1
        clear hS3 R'
        go_wp2_with fail
        go_region_held3 (fun w' => w'.cell? ⟨w.heap.size + 1, 0, none⟩ = some (.int .i64 v1) ∧ w'.cell? ⟨w.heap.size + 1, 1, none⟩ = some (.int .i64 u2) ∧ w'.cell? ⟨w.heap.size + 1 + 1, 0, none⟩ = some (.int .i64 1) ∧ w'.cell? ⟨w.heap.size + 1 + 1, 1, none⟩ = some (.int .i64 u2)) (go_keep)
          (fail)
        go_wp2_with fail
        refine bodyPost_ret (v := .tuple #[.agg #[.int .i64 v1, .int .i64 u2], .bool (true)]) (by simp [results, Try.results57, go_sem, r0, r1]) rfl ⟨rfl, ?_⟩
        repeat (first | exact B.out | refine Below.setCell ?_ HS3.out _ | refine Below.drew ?_)
      · have n2 : (u2 == v2) = false := beq_eq_false_iff_ne.2 g2
        subst g1
        have HR := Lib.hid (show shapeA 2 rw cl n0 (v1, v2) (1, u2) = ((v1, v2), false) by simp [shapeA, *])
        rw [HR.out]
        go_enter Try.func57, Try.ntmps57
        go_upto_region 1 with fail
        generalize (((w.alloc (.cells #[.int .i64 2, .int .i64 xa, .int .i64 xb, .float .f32 nu, .int .i64 rw, .int .i64 cl, .slice a0 n0 c0] 56)).alloc (.cells #[.int .i64 v1, .int .i64 v2] 66)).alloc (.cells #[.int .i64 1, .int .i64 u2] 66)).alloc (.cells #[.int .i64 0, .int .i64 0] 66) = W at B K V U R ⊢
        obtain ⟨p0, p1, p2, p3, p4, p5, p6, pl⟩ := K.out.tpbox
        obtain ⟨x0, x1, xl⟩ := tpb2 V.out
        obtain ⟨y0, y1, yl⟩ := tpb2 U.out
        obtain ⟨r0, r1, rl⟩ := tpb2 R.out
        obtain ⟨S3, hS3⟩ : ∃ S, w.heap.size + 1 + 1 + 1 = S := ⟨_, rfl⟩
        have n0' : ¬ S3 = w.heap.size := by omega
        have n0r : ¬ w.heap.size = S3 := by omega
        have n1' : ¬ S3 = w.heap.size + 1 := by omega
        have n1r : ¬ w.heap.size + 1 = S3 := by omega
        have n2' : ¬ S3 = w.heap.size + 1 + 1 := by omega
        have n2r : ¬ w.heap.size + 1 + 1 = S3 := by omega
        have HS3 := Lib.hid (show w.heap.size ≤ S3 by omega)
        have R' := R.out
        rw [hS3] at R' r0 r1 rl ⊢
        have R3 := Lib.hid R'
        have e0 := R'.frozen 0
        have e1 := R'.frozen 1
        clear hS3 R'
        go_wp2_with fail
        go_region_held3 (fun w' => w'.cell? ⟨w.heap.size + 1, 0, none⟩ = some (.int .i64 v1) ∧ w'.cell? ⟨w.heap.size + 1, 1, none⟩ = some (.int .i64 v2) ∧ w'.cell? ⟨w.heap.size + 1 + 1, 0, none⟩ = some (.int .i64 1) ∧ w'.cell? ⟨w.heap.size + 1 + 1, 1, none⟩ = some (.int .i64 u2)) (go_keep)
          (fail)
        go_wp2_with fail
        refine bodyPost_ret (v := .tuple #[.agg #[.int .i64 v1, .int .i64 v2], .bool (false)]) (by simp [results, Try.results57, go_sem, r0, r1]) rfl ⟨rfl, ?_⟩
        repeat (first | exact B.out | refine Below.setCell ?_ HS3.out _ | refine Below.drew ?_)
    · have n1 : (u1 == 1) = false := beq_eq_false_iff_ne.2 g1
      have HR := Lib.hid (show shapeA 2 rw cl n0 (v1, v2) (u1, u2) = ((v1, v2), false) by simp [shapeA, *])
      rw [HR.out]
      go_enter Try.func57, Try.ntmps57
      go_upto_region 1 with fail
      generalize (((w.alloc (.cells #[.int .i64 2, .int .i64 xa, .int .i64 xb, .float .f32 nu, .int .i64 rw, .int .i64 cl, .slice a0 n0 c0] 56)).alloc (.cells #[.int .i64 v1, .int .i64 v2] 66)).alloc (.cells #[.int .i64 u1, .int .i64 u2] 66)).alloc (.cells #[.int .i64 0, .int .i64 0] 66) = W at B K V U R ⊢
      obtain ⟨p0, p1, p2, p3, p4, p5, p6, pl⟩ := K.out.tpbox
      obtain ⟨x0, x1, xl⟩ := tpb2 V.out
      obtain ⟨y0, y1, yl⟩ := tpb2 U.out
      obtain ⟨r0, r1, rl⟩ := tpb2 R.out
      obtain ⟨S3, hS3⟩ : ∃ S, w.heap.size + 1 + 1 + 1 = S := ⟨_, rfl⟩
      have n0' : ¬ S3 = w.heap.size := by omega
      have n0r : ¬ w.heap.size = S3 := by omega
      have n1' : ¬ S3 = w.heap.size + 1 := by omega
      have n1r : ¬ w.heap.size + 1 = S3 := by omega
      have n2' : ¬ S3 = w.heap.size + 1 + 1 := by omega
      have n2r : ¬ w.heap.size + 1 + 1 = S3 := by omega
      have HS3 := Lib.hid (show w.heap.size ≤ S3 by omega)
      have R' := R.out
      rw [hS3] at R' r0 r1 rl ⊢
      have R3 := Lib.hid R'
      have e0 := R'.frozen 0
      have e1 := R'.frozen 1
      clear hS3 R'
      go_wp2_with fail
      go_region_held3 (fun w' => w'.cell? ⟨w.heap.size + 1, 0, none⟩ = some (.int .i64 v1) ∧ w'.cell? ⟨w.heap.size + 1, 1, none⟩ = some (.int .i64 v2) ∧ w'.cell? ⟨w.heap.size + 1 + 1, 0, none⟩ = some (.int .i64 u1) ∧ w'.cell? ⟨w.heap.size + 1 + 1, 1, none⟩ = some (.int .i64 u2)) (go_keep)
        (fail)
      go_wp2_with fail
      refine bodyPost_ret (v := .tuple #[.agg #[.int .i64 v1, .int .i64 v2], .bool (false)]) (by simp [results, Try.results57, go_sem, r0, r1]) rfl ⟨rfl, ?_⟩
      repeat (first | exact B.out | refine Below.setCell ?_ HS3.out _ | refine Below.drew ?_)
  have d2 : (kd == 2) = false := beq_eq_false_iff_ne.2 h2
  by_cases h4 : kd = 4
  · subst h4
    clear h0 d0 h1 d1 h3 d3 h2 d2
    by_cases g1 : u1 = 1
    · by_cases g2 : u2 = v2
      · subst g1 g2
        have HR := Lib.hid (show shapeA 4 rw cl n0 (v1, u2) (1, u2) = ((v1, u2), true) by simp [shapeA, *])
        rw [HR.out]
        go_enter Try.func57, Try.ntmps57
        go_upto_region 1 with fail
        generalize (((w.alloc (.cells #[.int .i64 4, .int .i64 xa, .int .i64 xb, .float .f32 nu, .int .i64 rw, .int .i64 cl, .slice a0 n0 c0] 56)).alloc (.cells #[.int .i64 v1, .int .i64 u2] 66)).alloc (.cells #[.int .i64 1, .int .i64 u2] 66)).alloc (.cells #[.int .i64 0, .int .i64 0] 66) = W at B K V U R ⊢
        obtain ⟨p0, p1, p2, p3, p4, p5, p6, pl⟩ := K.out.tpbox
        obtain ⟨x0, x1, xl⟩ := tpb2 V.out
        obtain ⟨y0, y1, yl⟩ := tpb2 U.out
        obtain ⟨r0, r1, rl⟩ := tpb2 R.out
        obtain ⟨S3, hS3⟩ : ∃ S, w.heap.size + 1 + 1 + 1 = S := ⟨_, rfl⟩
        have n0' : ¬ S3 = w.heap.size := by omega
        have n0r : ¬ w.heap.size = S3 := by omega
        have n1' : ¬ S3 = w.heap.size + 1 := by omega
        have n1r : ¬ w.heap.size + 1 = S3 := by omega
        have n2' : ¬ S3 = w.heap.size + 1 + 1 := by omega
        have n2r : ¬ w.heap.size + 1 + 1 = S3 := by omega
        have HS3 := Lib.hid (show w.heap.size ≤ S3 by omega)
        have R' := R.out
        rw [hS3] at R' r0 r1 rl ⊢
        have R3 := Lib.hid R'
        have e0 := R'.frozen 0
        have e1 := R'.frozen 1
        clear hS3 R'
        go_wp2_with fail
        go_region_held3 (fun w' => w'.cell? ⟨w.heap.size + 1, 0, none⟩ = some (.int .i64 v1) ∧ w'.cell? ⟨w.heap.size + 1, 1, none⟩ = some (.int .i64 u2) ∧ w'.cell? ⟨w.heap.size + 1 + 1, 0, none⟩ = some (.int .i64 1) ∧ w'.cell? ⟨w.heap.size + 1 + 1, 1, none⟩ = some (.int .i64 u2)) (go_keep)
          (fail)
        go_wp2_with fail
        refine bodyPost_ret (v := .tuple #[.agg #[.int .i64 v1, .int .i64 u2], .bool (true)]) (by simp [results, Try.results57, go_sem, r0, r1]) rfl ⟨rfl, ?_⟩
        repeat (first | exact B.out | refine Below.setCell ?_ HS3.out _ | refine Below.drew ?_)
      · have n2 : (u2 == v2) = false := beq_eq_false_iff_ne.2 g2
        subst g1
        have HR := Lib.hid (show shapeA 4 rw cl n0 (v1, v2) (1, u2) = ((v1, v2), false) by simp [shapeA, *])
        rw [HR.out]
        go_enter Try.func57, Try.ntmps57
        go_upto_region 1 with fail
        generalize (((w.alloc (.cells #[.int .i64 4, .int .i64 xa, .int .i64 xb, .float .f32 nu, .int .i64 rw, .int .i64 cl, .slice a0 n0 c0] 56)).alloc (.cells #[.int .i64 v1, .int .i64 v2] 66)).alloc (.cells #[.int .i64 1, .int .i64 u2] 66)).alloc (.cells #[.int .i64 0, .int .i64 0] 66) = W at B K V U R ⊢
        obtain ⟨p0, p1, p2, p3, p4, p5, p6, pl⟩ := K.out.tpbox
        obtain ⟨x0, x1, xl⟩ := tpb2 V.out
        obtain ⟨y0, y1, yl⟩ := tpb2 U.out
        obtain ⟨r0, r1, rl⟩ := tpb2 R.out
        obtain ⟨S3, hS3⟩ : ∃ S, w.heap.size + 1 + 1 + 1 = S := ⟨_, rfl⟩
        have n0' : ¬ S3 = w.heap.size := by omega
        have n0r : ¬ w.heap.size = S3 := by omega
        have n1' : ¬ S3 = w.heap.size + 1 := by omega
        have n1r : ¬ w.heap.size + 1 = S3 := by omega
        have n2' : ¬ S3 = w.heap.size + 1 + 1 := by omega
        have n2r : ¬ w.heap.size + 1 + 1 = S3 := by omega
        have HS3 := Lib.hid (show w.heap.size ≤ S3 by omega)
        have R' := R.out
        rw [hS3] at R' r0 r1 rl ⊢
        have R3 := Lib.hid R'
        have e0 := R'.frozen 0
        have e1 := R'.frozen 1
        clear hS3 R'
        go_wp2_with fail
        go_region_held3 (fun w' => w'.cell? ⟨w.heap.size + 1, 0, none⟩ = some (.int .i64 v1) ∧ w'.cell? ⟨w.heap.size + 1, 1, none⟩ = some (.int .i64 v2) ∧ w'.cell? ⟨w.heap.size + 1 + 1, 0, none⟩ = some (.int .i64 1) ∧ w'.cell? ⟨w.heap.size + 1 + 1, 1, none⟩ = some (.int .i64 u2)) (go_keep)
          (fail)
        go_wp2_with fail
        refine bodyPost_ret (v := .tuple #[.agg #[.int .i64 v1, .int .i64 v2], .bool (false)]) (by simp [results, Try.results57, go_sem, r0, r1]) rfl ⟨rfl, ?_⟩
        repeat (first | exact B.out | refine Below.setCell ?_ HS3.out _ | refine Below.drew ?_)
    · have n1 : (u1 == 1) = false := beq_eq_false_iff_ne.2 g1
      have HR := Lib.hid (show shapeA 4 rw cl n0 (v1, v2) (u1, u2) = ((v1, v2), false) by simp [shapeA, *])
      rw [HR.out]
      go_enter Try.func57, Try.ntmps57
      go_upto_region 1 with fail
      generalize (((w.alloc (.cells #[.int .i64 4, .int .i64 xa, .int .i64 xb, .float .f32 nu, .int .i64 rw, .int .i64 cl, .slice a0 n0 c0] 56)).alloc (.cells #[.int .i64 v1, .int .i64 v2] 66)).alloc (.cells #[.int .i64 u1, .int .i64 u2] 66)).alloc (.cells #[.int .i64 0, .int .i64 0] 66) = W at B K V U R ⊢
      obtain ⟨p0, p1, p2, p3, p4, p5, p6, pl⟩ := K.out.tpbox
      obtain ⟨x0, x1, xl⟩ := tpb2 V.out
      obtain ⟨y0, y1, yl⟩ := tpb2 U.out
      obtain ⟨r0, r1, rl⟩ := tpb2 R.out
      obtain ⟨S3, hS3⟩ : ∃ S, w.heap.size + 1 + 1 + 1 = S := ⟨_, rfl⟩
      have n0' : ¬ S3 = w.heap.size := by omega
      have n0r : ¬ w.heap.size = S3 := by omega
      have n1' : ¬ S3 = w.heap.size + 1 := by omega
      have n1r : ¬ w.heap.size + 1 = S3 := by omega
      have n2' : ¬ S3 = w.heap.size + 1 + 1 := by omega
      have n2r : ¬ w.heap.size + 1 + 1 = S3 := by omega
      have HS3 := Lib.hid (show w.heap.size ≤ S3 by omega)
      have R' := R.out
      rw [hS3] at R' r0 r1 rl ⊢
      have R3 := Lib.hid R'
      have e0 := R'.frozen 0
      have e1 := R'.frozen 1
      clear hS3 R'
      go_wp2_with fail
      go_region_held3 (fun w' => w'.cell? ⟨w.heap.size + 1, 0, none⟩ = some (.int .i64 v1) ∧ w'.cell? ⟨w.heap.size + 1, 1, none⟩ = some (.int .i64 v2) ∧ w'.cell? ⟨w.heap.size + 1 + 1, 0, none⟩ = some (.int .i64 u1) ∧ w'.cell? ⟨w.heap.size + 1 + 1, 1, none⟩ = some (.int .i64 u2)) (go_keep)
        (fail)
      go_wp2_with fail
      refine bodyPost_ret (v := .tuple #[.agg #[.int .i64 v1, .int .i64 v2], .bool (false)]) (by simp [results, Try.results57, go_sem, r0, r1]) rfl ⟨rfl, ?_⟩
      repeat (first | exact B.out | refine Below.setCell ?_ HS3.out _ | refine Below.drew ?_)
  have d4 : (kd == 4) = false := beq_eq_false_iff_ne.2 h4
  by_cases h6 : kd = 6
  · subst h6
    clear h0 d0 h1 d1 h3 d3 h2 d2 h4 d4
    by_cases g1 : v2 = u1
    · subst g1
      have HR := Lib.hid (show shapeA 6 rw cl n0 (v1, v2) (v2, u2) = ((v1, u2), true) by simp [shapeA, *])
      rw [HR.out]
      go_enter Try.func57, Try.ntmps57
      go_upto_region 1 with fail
      generalize (((w.alloc (.cells #[.int .i64 6, .int .i64 xa, .int .i64 xb, .float .f32 nu, .int .i64 rw, .int .i64 cl, .slice a0 n0 c0] 56)).alloc (.cells #[.int .i64 v1, .int .i64 v2] 66)).alloc (.cells #[.int .i64 v2, .int .i64 u2] 66)).alloc (.cells #[.int .i64 0, .int .i64 0] 66) = W at B K V U R ⊢
      obtain ⟨p0, p1, p2, p3, p4, p5, p6, pl⟩ := K.out.tpbox
      obtain ⟨x0, x1, xl⟩ := tpb2 V.out
      obtain ⟨y0, y1, yl⟩ := tpb2 U.out
      obtain ⟨r0, r1, rl⟩ := tpb2 R.out
      obtain ⟨S3, hS3⟩ : ∃ S, w.heap.size + 1 + 1 + 1 = S := ⟨_, rfl⟩
      have n0' : ¬ S3 = w.heap.size := by omega
      have n0r : ¬ w.heap.size = S3 := by omega
      have n1' : ¬ S3 = w.heap.size + 1 := by omega
      have n1r : ¬ w.heap.size + 1 = S3 := by omega
      have n2' : ¬ S3 = w.heap.size + 1 + 1 := by omega
      have n2r : ¬ w.heap.size + 1 + 1 = S3 := by omega
      have HS3 := Lib.hid (show w.heap.size ≤ S3 by omega)
      have R' := R.out
      rw [hS3] at R' r0 r1 rl ⊢
      have R3 := Lib.hid R'
      have e0 := R'.frozen 0
      have e1 := R'.frozen 1
      clear hS3 R'
      go_wp2_with fail
      go_region_held3 (fun w' => w'.cell? ⟨w.heap.size + 1, 0, none⟩ = some (.int .i64 v1) ∧ w'.cell? ⟨w.heap.size + 1, 1, none⟩ = some (.int .i64 v2) ∧ w'.cell? ⟨w.heap.size + 1 + 1, 0, none⟩ = some (.int .i64 v2) ∧ w'.cell? ⟨w.heap.size + 1 + 1, 1, none⟩ = some (.int .i64 u2)) (go_keep)
        (fail)
      go_wp2_with fail
      refine bodyPost_ret (v := .tuple #[.agg #[.int .i64 v1, .int .i64 u2], .bool (true)]) (by simp [results, Try.results57, go_sem, r0, r1]) rfl ⟨rfl, ?_⟩
      repeat (first | exact B.out | refine Below.setCell ?_ HS3.out _ | refine Below.drew ?_)
    · have n1 : (v2 == u1) = false := beq_eq_false_iff_ne.2 g1
      have HR := Lib.hid (show shapeA 6 rw cl n0 (v1, v2) (u1, u2) = ((v1, u2), false) by simp [shapeA, *])
      rw [HR.out]
      go_enter Try.func57, Try.ntmps57
      go_upto_region 1 with fail
      generalize (((w.alloc (.cells #[.int .i64 6, .int .i64 xa, .int .i64 xb, .float .f32 nu, .int .i64 rw, .int .i64 cl, .slice a0 n0 c0] 56)).alloc (.cells #[.int .i64 v1, .int .i64 v2] 66)).alloc (.cells #[.int .i64 u1, .int .i64 u2] 66)).alloc (.cells #[.int .i64 0, .int .i64 0] 66) = W at B K V U R ⊢
      obtain ⟨p0, p1, p2, p3, p4, p5, p6, pl⟩ := K.out.tpbox
      obtain ⟨x0, x1, xl⟩ := tpb2 V.out
      obtain ⟨y0, y1, yl⟩ := tpb2 U.out
      obtain ⟨r0, r1, rl⟩ := tpb2 R.out
      obtain ⟨S3, hS3⟩ : ∃ S, w.heap.size + 1 + 1 + 1 = S := ⟨_, rfl⟩
      have n0' : ¬ S3 = w.heap.size := by omega
      have n0r : ¬ w.heap.size = S3 := by omega
      have n1' : ¬ S3 = w.heap.size + 1 := by omega
      have n1r : ¬ w.heap.size + 1 = S3 := by omega
      have n2' : ¬ S3 = w.heap.size + 1 + 1 := by omega
      have n2r : ¬ w.heap.size + 1 + 1 = S3 := by omega
      have HS3 := Lib.hid (show w.heap.size ≤ S3 by omega)
      have R' := R.out
      rw [hS3] at R' r0 r1 rl ⊢
      have R3 := Lib.hid R'
      have e0 := R'.frozen 0
      have e1 := R'.frozen 1
      clear hS3 R'
      go_wp2_with fail
      go_region_held3 (fun w' => w'.cell? ⟨w.heap.size + 1, 0, none⟩ = some (.int .i64 v1) ∧ w'.cell? ⟨w.heap.size + 1, 1, none⟩ = some (.int .i64 v2) ∧ w'.cell? ⟨w.heap.size + 1 + 1, 0, none⟩ = some (.int .i64 u1) ∧ w'.cell? ⟨w.heap.size + 1 + 1, 1, none⟩ = some (.int .i64 u2)) (go_keep)
        (fail)
      go_wp2_with fail
      refine bodyPost_ret (v := .tuple #[.agg #[.int .i64 v1, .int .i64 u2], .bool (false)]) (by simp [results, Try.results57, go_sem, r0, r1]) rfl ⟨rfl, ?_⟩
      repeat (first | exact B.out | refine Below.setCell ?_ HS3.out _ | refine Below.drew ?_)
  have d6 : (kd == 6) = false := beq_eq_false_iff_ne.2 h6
  by_cases h7 : kd = 7
  · subst h7
    clear h0 d0 h1 d1 h3 d3 h2 d2 h4 d4 h6 d6
    have HR := Lib.hid (show shapeA 7 rw cl n0 (v1, v2) (u1, u2) = ((v2, v1), true) by simp [shapeA, *])
    rw [HR.out]
    go_enter Try.func57, Try.ntmps57
    go_upto_region 1 with fail
    generalize (((w.alloc (.cells #[.int .i64 7, .int .i64 xa, .int .i64 xb, .float .f32 nu, .int .i64 rw, .int .i64 cl, .slice a0 n0 c0] 56)).alloc (.cells #[.int .i64 v1, .int .i64 v2] 66)).alloc (.cells #[.int .i64 u1, .int .i64 u2] 66)).alloc (.cells #[.int .i64 0, .int .i64 0] 66) = W at B K V U R ⊢
    obtain ⟨p0, p1, p2, p3, p4, p5, p6, pl⟩ := K.out.tpbox
    obtain ⟨x0, x1, xl⟩ := tpb2 V.out
    obtain ⟨y0, y1, yl⟩ := tpb2 U.out
    obtain ⟨r0, r1, rl⟩ := tpb2 R.out
    obtain ⟨S3, hS3⟩ : ∃ S, w.heap.size + 1 + 1 + 1 = S := ⟨_, rfl⟩
    have n0' : ¬ S3 = w.heap.size := by omega
    have n0r : ¬ w.heap.size = S3 := by omega
    have n1' : ¬ S3 = w.heap.size + 1 := by omega
    have n1r : ¬ w.heap.size + 1 = S3 := by omega
    have n2' : ¬ S3 = w.heap.size + 1 + 1 := by omega
    have n2r : ¬ w.heap.size + 1 + 1 = S3 := by omega
    have HS3 := Lib.hid (show w.heap.size ≤ S3 by omega)
    have R' := R.out
    rw [hS3] at R' r0 r1 rl ⊢
    have R3 := Lib.hid R'
    have e0 := R'.frozen 0
    have e1 := R'.frozen 1
    clear hS3 R'
    go_wp2_with fail
    refine bodyPost_ret (v := .tuple #[.agg #[.int .i64 v2, .int .i64 v1], .bool (true)]) (by simp [results, Try.results57, go_sem, r0, r1]) rfl ⟨rfl, ?_⟩
    repeat (first | exact B.out | refine Below.setCell ?_ HS3.out _ | refine Below.drew ?_)
  have d7 : (kd == 7) = false := beq_eq_false_iff_ne.2 h7
  by_cases h10 : kd = 10
  · subst h10
    clear h0 d0 h1 d1 h3 d3 h2 d2 h4 d4 h6 d6 h7 d7
    have HR := Lib.hid (show shapeA 10 rw cl n0 (v1, v2) (u1, u2) = ((1, 1), true) by simp [shapeA, *])
    rw [HR.out]
    go_enter Try.func57, Try.ntmps57
    go_upto_region 1 with fail
    generalize (((w.alloc (.cells #[.int .i64 10, .int .i64 xa, .int .i64 xb, .float .f32 nu, .int .i64 rw, .int .i64 cl, .slice a0 n0 c0] 56)).alloc (.cells #[.int .i64 v1, .int .i64 v2] 66)).alloc (.cells #[.int .i64 u1, .int .i64 u2] 66)).alloc (.cells #[.int .i64 0, .int .i64 0] 66) = W at B K V U R ⊢
    obtain ⟨p0, p1, p2, p3, p4, p5, p6, pl⟩ := K.out.tpbox
    obtain ⟨x0, x1, xl⟩ := tpb2 V.out
    obtain ⟨y0, y1, yl⟩ := tpb2 U.out
    obtain ⟨r0, r1, rl⟩ := tpb2 R.out
    obtain ⟨S3, hS3⟩ : ∃ S, w.heap.size + 1 + 1 + 1 = S := ⟨_, rfl⟩
    have n0' : ¬ S3 = w.heap.size := by omega
    have n0r : ¬ w.heap.size = S3 := by omega
    have n1' : ¬ S3 = w.heap.size + 1 := by omega
    have n1r : ¬ w.heap.size + 1 = S3 := by omega
    have n2' : ¬ S3 = w.heap.size + 1 + 1 := by omega
    have n2r : ¬ w.heap.size + 1 + 1 = S3 := by omega
    have HS3 := Lib.hid (show w.heap.size ≤ S3 by omega)
    have R' := R.out
    rw [hS3] at R' r0 r1 rl ⊢
    have R3 := Lib.hid R'
    have e0 := R'.frozen 0
    have e1 := R'.frozen 1
    clear hS3 R'
    go_wp2_with fail
    refine bodyPost_ret (v := .tuple #[.agg #[.int .i64 1, .int .i64 1], .bool (true)]) (by simp [results, Try.results57, go_sem, r0, r1]) rfl ⟨rfl, ?_⟩
    repeat (first | exact B.out | refine Below.setCell ?_ HS3.out _ | refine Below.drew ?_)
  have d10 : (kd == 10) = false := beq_eq_false_iff_ne.2 h10
  by_cases h5 : kd = 5
  · subst h5
    clear h0 d0 h1 d1 h3 d3 h2 d2 h4 d4 h6 d6 h7 d7 h10 d10
    have HR := Lib.hid (show shapeA 5 rw cl n0 (v1, v2) (u1, u2) = ((v1, v2), true) by simp [shapeA, *])
    rw [HR.out]
    go_enter Try.func57, Try.ntmps57
    go_upto_region 1 with fail
    generalize (((w.alloc (.cells #[.int .i64 5, .int .i64 xa, .int .i64 xb, .float .f32 nu, .int .i64 rw, .int .i64 cl, .slice a0 n0 c0] 56)).alloc (.cells #[.int .i64 v1, .int .i64 v2] 66)).alloc (.cells #[.int .i64 u1, .int .i64 u2] 66)).alloc (.cells #[.int .i64 0, .int .i64 0] 66) = W at B K V U R ⊢
    obtain ⟨p0, p1, p2, p3, p4, p5, p6, pl⟩ := K.out.tpbox
    obtain ⟨x0, x1, xl⟩ := tpb2 V.out
    obtain ⟨y0, y1, yl⟩ := tpb2 U.out
    obtain ⟨r0, r1, rl⟩ := tpb2 R.out
    obtain ⟨S3, hS3⟩ : ∃ S, w.heap.size + 1 + 1 + 1 = S := ⟨_, rfl⟩
    have n0' : ¬ S3 = w.heap.size := by omega
    have n0r : ¬ w.heap.size = S3 := by omega
    have n1' : ¬ S3 = w.heap.size + 1 := by omega
    have n1r : ¬ w.heap.size + 1 = S3 := by omega
    have n2' : ¬ S3 = w.heap.size + 1 + 1 := by omega
    have n2r : ¬ w.heap.size + 1 + 1 = S3 := by omega
    have HS3 := Lib.hid (show w.heap.size ≤ S3 by omega)
    have R' := R.out
    rw [hS3] at R' r0 r1 rl ⊢
    have R3 := Lib.hid R'
    have e0 := R'.frozen 0
    have e1 := R'.frozen 1
    clear hS3 R'
    go_wp2_with fail
    refine bodyPost_ret (v := .tuple #[.agg #[.int .i64 v1, .int .i64 v2], .bool (true)]) (by simp [results, Try.results57, go_sem, r0, r1]) rfl ⟨rfl, ?_⟩
    repeat (first | exact B.out | refine Below.setCell ?_ HS3.out _ | refine Below.drew ?_)
  have d5 : (kd == 5) = false := beq_eq_false_iff_ne.2 h5
  by_cases h8 : kd = 8
  · subst h8
    clear h0 d0 h1 d1 h3 d3 h2 d2 h4 d4 h6 d6 h7 d7 h10 d10 h5 d5
    have HR := Lib.hid (show shapeA 8 rw cl n0 (v1, v2) (u1, u2) = ((v1, v2), true) by simp [shapeA, *])
    rw [HR.out]
    go_enter Try.func57, Try.ntmps57
    go_upto_region 1 with fail
    generalize (((w.alloc (.cells #[.int .i64 8, .int .i64 xa, .int .i64 xb, .float .f32 nu, .int .i64 rw, .int .i64 cl, .slice a0 n0 c0] 56)).alloc (.cells #[.int .i64 v1, .int .i64 v2] 66)).alloc (.cells #[.int .i64 u1, .int .i64 u2] 66)).alloc (.cells #[.int .i64 0, .int .i64 0] 66) = W at B K V U R ⊢
    obtain ⟨p0, p1, p2, p3, p4, p5, p6, pl⟩ := K.out.tpbox
    obtain ⟨x0, x1, xl⟩ := tpb2 V.out
    obtain ⟨y0, y1, yl⟩ := tpb2 U.out
    obtain ⟨r0, r1, rl⟩ := tpb2 R.out
    obtain ⟨S3, hS3⟩ : ∃ S, w.heap.size + 1 + 1 + 1 = S := ⟨_, rfl⟩
    have n0' : ¬ S3 = w.heap.size := by omega
    have n0r : ¬ w.heap.size = S3 := by omega
    have n1' : ¬ S3 = w.heap.size + 1 := by omega
    have n1r : ¬ w.heap.size + 1 = S3 := by omega
    have n2' : ¬ S3 = w.heap.size + 1 + 1 := by omega
    have n2r : ¬ w.heap.size + 1 + 1 = S3 := by omega
    have HS3 := Lib.hid (show w.heap.size ≤ S3 by omega)
    have R' := R.out
    rw [hS3] at R' r0 r1 rl ⊢
    have R3 := Lib.hid R'
    have e0 := R'.frozen 0
    have e1 := R'.frozen 1
    clear hS3 R'
    go_wp2_with fail
    refine bodyPost_ret (v := .tuple #[.agg #[.int .i64 v1, .int .i64 v2], .bool (true)]) (by simp [results, Try.results57, go_sem, r0, r1]) rfl ⟨rfl, ?_⟩
    repeat (first | exact B.out | refine Below.setCell ?_ HS3.out _ | refine Below.drew ?_)
  have d8 : (kd == 8) = false := beq_eq_false_iff_ne.2 h8
  by_cases h9 : kd = 9
  · subst h9
    clear h0 d0 h1 d1 h3 d3 h2 d2 h4 d4 h6 d6 h7 d7 h10 d10 h5 d5 h8 d8
    have HR := Lib.hid (show shapeA 9 rw cl n0 (v1, v2) (u1, u2) = ((v1, v2), true) by simp [shapeA, *])
    rw [HR.out]
    go_enter Try.func57, Try.ntmps57
    go_upto_region 1 with fail
    generalize (((w.alloc (.cells #[.int .i64 9, .int .i64 xa, .int .i64 xb, .float .f32 nu, .int .i64 rw, .int .i64 cl, .slice a0 n0 c0] 56)).alloc (.cells #[.int .i64 v1, .int .i64 v2] 66)).alloc (.cells #[.int .i64 u1, .int .i64 u2] 66)).alloc (.cells #[.int .i64 0, .int .i64 0] 66) = W at B K V U R ⊢
    obtain ⟨p0, p1, p2, p3, p4, p5, p6, pl⟩ := K.out.tpbox
    obtain ⟨x0, x1, xl⟩ := tpb2 V.out
    obtain ⟨y0, y1, yl⟩ := tpb2 U.out
    obtain ⟨r0, r1, rl⟩ := tpb2 R.out
    obtain ⟨S3, hS3⟩ : ∃ S, w.heap.size + 1 + 1 + 1 = S := ⟨_, rfl⟩
    have n0' : ¬ S3 = w.heap.size := by omega
    have n0r : ¬ w.heap.size = S3 := by omega
    have n1' : ¬ S3 = w.heap.size + 1 := by omega
    have n1r : ¬ w.heap.size + 1 = S3 := by omega
    have n2' : ¬ S3 = w.heap.size + 1 + 1 := by omega
    have n2r : ¬ w.heap.size + 1 + 1 = S3 := by omega
    have HS3 := Lib.hid (show w.heap.size ≤ S3 by omega)
    have R' := R.out
    rw [hS3] at R' r0 r1 rl ⊢
    have R3 := Lib.hid R'
    have e0 := R'.frozen 0
    have e1 := R'.frozen 1
    clear hS3 R'
    go_wp2_with fail
    refine bodyPost_ret (v := .tuple #[.agg #[.int .i64 v1, .int .i64 v2], .bool (true)]) (by simp [results, Try.results57, go_sem, r0, r1]) rfl ⟨rfl, ?_⟩
    repeat (first | exact B.out | refine Below.setCell ?_ HS3.out _ | refine Below.drew ?_)
  have d9 : (kd == 9) = false := beq_eq_false_iff_ne.2 h9
  have HR := Lib.hid (show shapeA kd rw cl n0 (v1, v2) (u1, u2) = ((0, 0), false) by simp [shapeA, *])
  rw [HR.out]
  go_enter Try.func57, Try.ntmps57
  go_upto_region 1 with fail
  generalize (((w.alloc (.cells #[.int .i64 kd, .int .i64 xa, .int .i64 xb, .float .f32 nu, .int .i64 rw, .int .i64 cl, .slice a0 n0 c0] 56)).alloc (.cells #[.int .i64 v1, .int .i64 v2] 66)).alloc (.cells #[.int .i64 u1, .int .i64 u2] 66)).alloc (.cells #[.int .i64 0, .int .i64 0] 66) = W at B K V U R ⊢
  obtain ⟨p0, p1, p2, p3, p4, p5, p6, pl⟩ := K.out.tpbox
  obtain ⟨x0, x1, xl⟩ := tpb2 V.out
  obtain ⟨y0, y1, yl⟩ := tpb2 U.out
  obtain ⟨r0, r1, rl⟩ := tpb2 R.out
  obtain ⟨S3, hS3⟩ : ∃ S, w.heap.size + 1 + 1 + 1 = S := ⟨_, rfl⟩
  have n0' : ¬ S3 = w.heap.size := by omega
  have n0r : ¬ w.heap.size = S3 := by omega
  have n1' : ¬ S3 = w.heap.size + 1 := by omega
  have n1r : ¬ w.heap.size + 1 = S3 := by omega
  have n2' : ¬ S3 = w.heap.size + 1 + 1 := by omega
  have n2r : ¬ w.heap.size + 1 + 1 = S3 := by omega
  have HS3 := Lib.hid (show w.heap.size ≤ S3 by omega)
  have R' := R.out
  rw [hS3] at R' r0 r1 rl ⊢
  have R3 := Lib.hid R'
  have e0 := R'.frozen 0
  have e1 := R'.frozen 1
  clear hS3 R'
  go_wp2_with fail
  refine bodyPost_ret (v := .tuple #[.agg #[.int .i64 0, .int .i64 0], .bool (false)]) (by simp [results, Try.results57, go_sem, r0, r1]) rfl ⟨rfl, ?_⟩
  repeat (first | exact B.out | refine Below.setCell ?_ HS3.out _ | refine Below.drew ?_)
end Go.Proofs.Ytdgoladbkaldkaa
