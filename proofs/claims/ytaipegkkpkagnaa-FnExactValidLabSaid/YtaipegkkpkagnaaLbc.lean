/-
  Copies of labs by value. Conditions: the cells can be read.
-/
import Derived.Test.YtaipegkkpkagnaaLbw
namespace Go.Proofs.Ytaipegkkpkagnaa
open Go.RowKit Go.Deep Go.WideShapes Go.ChangeShapes
set_option linter.unusedVariables false
set_option linter.unusedSimpArgs false

set_option maxRecDepth 100000 in
set_option maxHeartbeats 4000000 in
theorem c_toLab (x : LabA) (w : World) (hx : LabAt w x) (hl : labSum x ≤ 1048576) :
    Calls Try.prog 14 #[.agg x.cells] w fun e w' => ∃ y : LabA, e = .returned (.agg y.cells) ∧ LabEq y x ∧ LabAt w' y ∧ Below w.heap.size w w' := by
  obtain ⟨k, r, b1, b2, ep, er, ec, er2, ec2, ex, ey, ea, eb, eca, ecb, ⟨g, c, ls, h, d, ss, st, sd, sc⟩⟩ := x
  simp only [LabAt, labSum] at hx hl
  obtain ⟨⟨x1, x2⟩, x3, wk⟩ := hx
  obtain ⟨T, hT⟩ : ∃ T : TrsA, (⟨g, c, ls, h, d, ss, st, sd, sc⟩ : TrsA) = T := ⟨_, rfl⟩
  rw [hT] at x3 hl
  have HT := Lib.hid hT
  have X1 := Lib.hid x1
  have X2 := Lib.hid x2
  have X3 := Lib.hid x3
  have L1 := Lib.hid (show ex.length ≤ 1048576 by omega)
  have L2 := Lib.hid (show ey.length ≤ 1048576 by omega)
  have L3 := Lib.hid (show trsSum T ≤ 1048576 by omega)
  have WK := Lib.hid wk
  have HC0 := Lib.hid (show Value.agg #[.slice g ls.length c, .slice h ss.length d, .int .i64 st, .int .i64 sd, .float .f32 sc] = .agg T.cells by rw [← hT]; rfl)
  have HO0 := Lib.hid (show Value.agg #[.int .i64 k, .float .f32 r, .float .f32 b1, .float .f32 b2, .float .f32 ep] = optV k r b1 b2 ep from rfl)
  unfold LabA.cells
  simp only
  clear x1 x2 x3 hl hT wk
  go_enter Try.func14, Try.ntmps14
  go_upto_region 2 with fail
  have b0 : Below w.heap.size w (((w.alloc (.cells #[.int .i64 k, .float .f32 r, .float .f32 b1, .float .f32 b2, .float .f32 ep, .int .i64 er, .int .i64 ec, .slice ea ex.length eca, .int .i64 er2, .int .i64 ec2, .slice eb ey.length ecb, .slice g ls.length c, .slice h ss.length d, .int .i64 st, .int .i64 sd, .float .f32 sc] 37)).alloc (.cells #[.int .i64 0, .float .f32 0, .float .f32 0, .float .f32 0, .float .f32 0, .int .i64 0, .int .i64 0, .slice none 0 0, .int .i64 0, .int .i64 0, .slice none 0 0, .slice none 0 0, .slice none 0 0, .int .i64 0, .int .i64 0, .float .f32 0] 50)).alloc (.cells #[.int .i64 0, .float .f32 0, .float .f32 0, .float .f32 0, .float .f32 0, .int .i64 0, .int .i64 0, .slice none 0 0, .int .i64 0, .int .i64 0, .slice none 0 0, .slice none 0 0, .slice none 0 0, .int .i64 0, .int .i64 0, .float .f32 0] 50)) := (((Below.refl w.heap.size w).alloc (Nat.le_refl _) _).alloc (by simp) _).alloc (by simp; omega) _
  have k1 : Blk (((w.alloc (.cells #[.int .i64 k, .float .f32 r, .float .f32 b1, .float .f32 b2, .float .f32 ep, .int .i64 er, .int .i64 ec, .slice ea ex.length eca, .int .i64 er2, .int .i64 ec2, .slice eb ey.length ecb, .slice g ls.length c, .slice h ss.length d, .int .i64 st, .int .i64 sd, .float .f32 sc] 37)).alloc (.cells #[.int .i64 0, .float .f32 0, .float .f32 0, .float .f32 0, .float .f32 0, .int .i64 0, .int .i64 0, .slice none 0 0, .int .i64 0, .int .i64 0, .slice none 0 0, .slice none 0 0, .slice none 0 0, .int .i64 0, .int .i64 0, .float .f32 0] 50)).alloc (.cells #[.int .i64 0, .float .f32 0, .float .f32 0, .float .f32 0, .float .f32 0, .int .i64 0, .int .i64 0, .slice none 0 0, .int .i64 0, .int .i64 0, .slice none 0 0, .slice none 0 0, .slice none 0 0, .int .i64 0, .int .i64 0, .float .f32 0] 50)) w.heap.size 37 #[.int .i64 k, .float .f32 r, .float .f32 b1, .float .f32 b2, .float .f32 ep, .int .i64 er, .int .i64 ec, .slice ea ex.length eca, .int .i64 er2, .int .i64 ec2, .slice eb ey.length ecb, .slice g ls.length c, .slice h ss.length d, .int .i64 st, .int .i64 sd, .float .f32 sc] := ((Blk.new w _ _).below ((Below.refl _ _).alloc (Nat.le_refl _) _)).below ((Below.refl _ _).alloc (Nat.le_refl _) _)
  have k2 := (Blk.new (w.alloc (.cells #[.int .i64 k, .float .f32 r, .float .f32 b1, .float .f32 b2, .float .f32 ep, .int .i64 er, .int .i64 ec, .slice ea ex.length eca, .int .i64 er2, .int .i64 ec2, .slice eb ey.length ecb, .slice g ls.length c, .slice h ss.length d, .int .i64 st, .int .i64 sd, .float .f32 sc] 37)) 50 #[.int .i64 0, .float .f32 0, .float .f32 0, .float .f32 0, .float .f32 0, .int .i64 0, .int .i64 0, .slice none 0 0, .int .i64 0, .int .i64 0, .slice none 0 0, .slice none 0 0, .slice none 0 0, .int .i64 0, .int .i64 0, .float .f32 0]).below ((Below.refl _ _).alloc (Nat.le_refl _) (.cells #[.int .i64 0, .float .f32 0, .float .f32 0, .float .f32 0, .float .f32 0, .int .i64 0, .int .i64 0, .slice none 0 0, .int .i64 0, .int .i64 0, .slice none 0 0, .slice none 0 0, .slice none 0 0, .int .i64 0, .int .i64 0, .float .f32 0] 50))
  have k3 := Blk.new ((w.alloc (.cells #[.int .i64 k, .float .f32 r, .float .f32 b1, .float .f32 b2, .float .f32 ep, .int .i64 er, .int .i64 ec, .slice ea ex.length eca, .int .i64 er2, .int .i64 ec2, .slice eb ey.length ecb, .slice g ls.length c, .slice h ss.length d, .int .i64 st, .int .i64 sd, .float .f32 sc] 37)).alloc (.cells #[.int .i64 0, .float .f32 0, .float .f32 0, .float .f32 0, .float .f32 0, .int .i64 0, .int .i64 0, .slice none 0 0, .int .i64 0, .int .i64 0, .slice none 0 0, .slice none 0 0, .slice none 0 0, .int .i64 0, .int .i64 0, .float .f32 0] 50)) 50 #[.int .i64 0, .float .f32 0, .float .f32 0, .float .f32 0, .float .f32 0, .int .i64 0, .int .i64 0, .slice none 0 0, .int .i64 0, .int .i64 0, .slice none 0 0, .slice none 0 0, .slice none 0 0, .int .i64 0, .int .i64 0, .float .f32 0]
  simp only [World.size_alloc] at k2 k3
  have B0 := Lib.hid b0
  have K1 := Lib.hid k1
  have K2 := Lib.hid k2
  have K3 := Lib.hid k3
  clear b0 k1 k2 k3
  generalize ((w.alloc (.cells #[.int .i64 k, .float .f32 r, .float .f32 b1, .float .f32 b2, .float .f32 ep, .int .i64 er, .int .i64 ec, .slice ea ex.length eca, .int .i64 er2, .int .i64 ec2, .slice eb ey.length ecb, .slice g ls.length c, .slice h ss.length d, .int .i64 st, .int .i64 sd, .float .f32 sc] 37)).alloc (.cells #[.int .i64 0, .float .f32 0, .float .f32 0, .float .f32 0, .float .f32 0, .int .i64 0, .int .i64 0, .slice none 0 0, .int .i64 0, .int .i64 0, .slice none 0 0, .slice none 0 0, .slice none 0 0, .int .i64 0, .int .i64 0, .float .f32 0] 50)).alloc (.cells #[.int .i64 0, .float .f32 0, .float .f32 0, .float .f32 0, .float .f32 0, .int .i64 0, .int .i64 0, .slice none 0 0, .int .i64 0, .int .i64 0, .slice none 0 0, .slice none 0 0, .slice none 0 0, .int .i64 0, .int .i64 0, .float .f32 0] 50) = w1 at B0 K1 K2 K3 ⊢
  obtain ⟨p0, p1, p2, p3, p4, p5, p6, p7, p8, p9, p10, p11, p12, p13, p14, p15, pl⟩ := tb16 K1.out
  obtain ⟨q0, q1, q2, q3, q4, q5, q6, q7, q8, q9, q10, q11, q12, q13, q14, q15, ql⟩ := tb16 K3.out
  obtain ⟨f0, f1, f2, f3, f4, f5, f6, f7, f8, f9, f10, f11, f12, f13, f14, f15⟩ := tbf16 K3.out
  go_wp2_with fail
  rw [HO0.out]
  refine (c_toOpt k r b1 b2 ep _).mono ?_
  rintro e w2 ⟨rfl, hb⟩
  have S3 := Lib.hid (show w.heap.size + 1 + 1 < w1.heap.size from K3.out.lt)
  have K1a := Lib.hid (K1.out.below hb)
  have K2a := Lib.hid (K2.out.below hb)
  have K3a := Lib.hid (K3.out.below hb)
  have Ba := Lib.hid (Below.next B0.out hb)
  clear hb p0 p1 p2 p3 p4 p5 p6 p7 p8 p9 p10 p11 p12 p13 p14 p15 pl q0 q1 q2 q3 q4 q5 q6 q7 q8 q9 q10 q11 q12 q13 q14 q15 ql f0 f1 f2 f3 f4 f5 f6 f7 f8 f9 f10 f11 f12 f13 f14 f15
  obtain ⟨p0, p1, p2, p3, p4, p5, p6, p7, p8, p9, p10, p11, p12, p13, p14, p15, pl⟩ := tb16 K1a.out
  obtain ⟨q0, q1, q2, q3, q4, q5, q6, q7, q8, q9, q10, q11, q12, q13, q14, q15, ql⟩ := tb16 K3a.out
  obtain ⟨f0, f1, f2, f3, f4, f5, f6, f7, f8, f9, f10, f11, f12, f13, f14, f15⟩ := tbf16 K3a.out
  rw [← HO0.out]
  go_wp2_with fail
  have hg : w2.grownBy (((((w2.setCell ⟨w.heap.size + 1 + 1, 0, none⟩ (.int .i64 k)).setCell ⟨w.heap.size + 1 + 1, 1, none⟩ (.float .f32 r)).setCell ⟨w.heap.size + 1 + 1, 2, none⟩ (.float .f32 b1)).setCell ⟨w.heap.size + 1 + 1, 3, none⟩ (.float .f32 b2)).setCell ⟨w.heap.size + 1 + 1, 4, none⟩ (.float .f32 ep)) (some (w.heap.size + 1 + 1)) := by simpa only [setN, Nat.reduceAdd] using setN_grown [.int .i64 k, .float .f32 r, .float .f32 b1, .float .f32 b2, .float .f32 ep] 0 w2
  have hk : Blk (((((w2.setCell ⟨w.heap.size + 1 + 1, 0, none⟩ (.int .i64 k)).setCell ⟨w.heap.size + 1 + 1, 1, none⟩ (.float .f32 r)).setCell ⟨w.heap.size + 1 + 1, 2, none⟩ (.float .f32 b1)).setCell ⟨w.heap.size + 1 + 1, 3, none⟩ (.float .f32 b2)).setCell ⟨w.heap.size + 1 + 1, 4, none⟩ (.float .f32 ep)) (w.heap.size + 1 + 1) 50 #[.int .i64 k, .float .f32 r, .float .f32 b1, .float .f32 b2, .float .f32 ep, .int .i64 0, .int .i64 0, .slice none 0 0, .int .i64 0, .int .i64 0, .slice none 0 0, .slice none 0 0, .slice none 0 0, .int .i64 0, .int .i64 0, .float .f32 0] := by simpa only [setN, setA, Nat.reduceAdd, List.setIfInBounds_toArray, List.set_cons_zero, List.set_cons_succ] using setN_blk [.int .i64 k, .float .f32 r, .float .f32 b1, .float .f32 b2, .float .f32 ep] 0 w2 _ K3a.out
  have K3b := Lib.hid hk
  have K1b := Lib.hid (K1a.out.off hg (by omega))
  have K2b := Lib.hid (K2a.out.off hg (by omega))
  have Bb := Lib.hid (Below.at_ Ba.out hg (by omega))
  clear hk hg p0 p1 p2 p3 p4 p5 p6 p7 p8 p9 p10 p11 p12 p13 p14 p15 pl q0 q1 q2 q3 q4 q5 q6 q7 q8 q9 q10 q11 q12 q13 q14 q15 ql f0 f1 f2 f3 f4 f5 f6 f7 f8 f9 f10 f11 f12 f13 f14 f15
  generalize (((((w2.setCell ⟨w.heap.size + 1 + 1, 0, none⟩ (.int .i64 k)).setCell ⟨w.heap.size + 1 + 1, 1, none⟩ (.float .f32 r)).setCell ⟨w.heap.size + 1 + 1, 2, none⟩ (.float .f32 b1)).setCell ⟨w.heap.size + 1 + 1, 3, none⟩ (.float .f32 b2)).setCell ⟨w.heap.size + 1 + 1, 4, none⟩ (.float .f32 ep)) = w3 at K3b K1b K2b Bb  ⊢
  obtain ⟨p0, p1, p2, p3, p4, p5, p6, p7, p8, p9, p10, p11, p12, p13, p14, p15, pl⟩ := tb16 K1b.out
  obtain ⟨q0, q1, q2, q3, q4, q5, q6, q7, q8, q9, q10, q11, q12, q13, q14, q15, ql⟩ := tb16 K3b.out
  obtain ⟨f0, f1, f2, f3, f4, f5, f6, f7, f8, f9, f10, f11, f12, f13, f14, f15⟩ := tbf16 K3b.out
  have S4 := Lib.hid (show w.heap.size + 1 + 1 < w3.heap.size from K3b.out.lt)
  try go_wp2_with fail
  refine (c_toExa er ec er2 ec2 ea eb eca ecb ex ey _ (X1.out.kept Bb.out) (X2.out.kept Bb.out) L1.out L2.out).mono ?_
  rintro e w4 ⟨na, nb, rfl, o1, o2, hap, hb⟩
  have Ec := Lib.hid (show OwnL w4 w3.heap.size [flC na ex.length ex, flC nb ey.length ey] by simp only [OwnL, flC_own, and_true]; exact ⟨o1, o2⟩)
  clear o1 o2 hap
  have K1c := Lib.hid (K1b.out.below hb)
  have K2c := Lib.hid (K2b.out.below hb)
  have K3c := Lib.hid (K3b.out.below hb)
  have Bc := Lib.hid (Below.next Bb.out hb)
  clear hb p0 p1 p2 p3 p4 p5 p6 p7 p8 p9 p10 p11 p12 p13 p14 p15 pl q0 q1 q2 q3 q4 q5 q6 q7 q8 q9 q10 q11 q12 q13 q14 q15 ql f0 f1 f2 f3 f4 f5 f6 f7 f8 f9 f10 f11 f12 f13 f14 f15
  obtain ⟨p0, p1, p2, p3, p4, p5, p6, p7, p8, p9, p10, p11, p12, p13, p14, p15, pl⟩ := tb16 K1c.out
  obtain ⟨q0, q1, q2, q3, q4, q5, q6, q7, q8, q9, q10, q11, q12, q13, q14, q15, ql⟩ := tb16 K3c.out
  obtain ⟨f0, f1, f2, f3, f4, f5, f6, f7, f8, f9, f10, f11, f12, f13, f14, f15⟩ := tbf16 K3c.out
  go_wp2_with fail
  have hg : w4.grownBy ((((((w4.setCell ⟨w.heap.size + 1 + 1, 5, none⟩ (.int .i64 er)).setCell ⟨w.heap.size + 1 + 1, 6, none⟩ (.int .i64 ec)).setCell ⟨w.heap.size + 1 + 1, 7, none⟩ (.slice na ex.length ex.length)).setCell ⟨w.heap.size + 1 + 1, 8, none⟩ (.int .i64 er2)).setCell ⟨w.heap.size + 1 + 1, 9, none⟩ (.int .i64 ec2)).setCell ⟨w.heap.size + 1 + 1, 10, none⟩ (.slice nb ey.length ey.length)) (some (w.heap.size + 1 + 1)) := by simpa only [setN, Nat.reduceAdd] using setN_grown [.int .i64 er, .int .i64 ec, .slice na ex.length ex.length, .int .i64 er2, .int .i64 ec2, .slice nb ey.length ey.length] 5 w4
  have hk : Blk ((((((w4.setCell ⟨w.heap.size + 1 + 1, 5, none⟩ (.int .i64 er)).setCell ⟨w.heap.size + 1 + 1, 6, none⟩ (.int .i64 ec)).setCell ⟨w.heap.size + 1 + 1, 7, none⟩ (.slice na ex.length ex.length)).setCell ⟨w.heap.size + 1 + 1, 8, none⟩ (.int .i64 er2)).setCell ⟨w.heap.size + 1 + 1, 9, none⟩ (.int .i64 ec2)).setCell ⟨w.heap.size + 1 + 1, 10, none⟩ (.slice nb ey.length ey.length)) (w.heap.size + 1 + 1) 50 #[.int .i64 k, .float .f32 r, .float .f32 b1, .float .f32 b2, .float .f32 ep, .int .i64 er, .int .i64 ec, .slice na ex.length ex.length, .int .i64 er2, .int .i64 ec2, .slice nb ey.length ey.length, .slice none 0 0, .slice none 0 0, .int .i64 0, .int .i64 0, .float .f32 0] := by simpa only [setN, setA, Nat.reduceAdd, List.setIfInBounds_toArray, List.set_cons_zero, List.set_cons_succ] using setN_blk [.int .i64 er, .int .i64 ec, .slice na ex.length ex.length, .int .i64 er2, .int .i64 ec2, .slice nb ey.length ey.length] 5 w4 _ K3c.out
  have K3d := Lib.hid hk
  have K1d := Lib.hid (K1c.out.off hg (by omega))
  have K2d := Lib.hid (K2c.out.off hg (by omega))
  have Bd := Lib.hid (Below.at_ Bc.out hg (by omega))
  have Ed := Lib.hid (Ec.out.offg hg (by have := S4.out; omega))
  clear hk hg p0 p1 p2 p3 p4 p5 p6 p7 p8 p9 p10 p11 p12 p13 p14 p15 pl q0 q1 q2 q3 q4 q5 q6 q7 q8 q9 q10 q11 q12 q13 q14 q15 ql f0 f1 f2 f3 f4 f5 f6 f7 f8 f9 f10 f11 f12 f13 f14 f15
  generalize ((((((w4.setCell ⟨w.heap.size + 1 + 1, 5, none⟩ (.int .i64 er)).setCell ⟨w.heap.size + 1 + 1, 6, none⟩ (.int .i64 ec)).setCell ⟨w.heap.size + 1 + 1, 7, none⟩ (.slice na ex.length ex.length)).setCell ⟨w.heap.size + 1 + 1, 8, none⟩ (.int .i64 er2)).setCell ⟨w.heap.size + 1 + 1, 9, none⟩ (.int .i64 ec2)).setCell ⟨w.heap.size + 1 + 1, 10, none⟩ (.slice nb ey.length ey.length)) = w5 at K3d K1d K2d Bd Ed ⊢
  obtain ⟨p0, p1, p2, p3, p4, p5, p6, p7, p8, p9, p10, p11, p12, p13, p14, p15, pl⟩ := tb16 K1d.out
  obtain ⟨q0, q1, q2, q3, q4, q5, q6, q7, q8, q9, q10, q11, q12, q13, q14, q15, ql⟩ := tb16 K3d.out
  obtain ⟨f0, f1, f2, f3, f4, f5, f6, f7, f8, f9, f10, f11, f12, f13, f14, f15⟩ := tbf16 K3d.out
  have S5 := Lib.hid (show w.heap.size + 1 + 1 < w5.heap.size from K3d.out.lt)
  try go_wp2_with fail
  rw [HC0.out]
  refine (c_toTrs' T _ (X3.out.kept Bd.out) L3.out).mono ?_
  rintro e w6 ⟨T2, rfl, hte, hto, hb⟩
  obtain ⟨mg, mc, mls, mh, md, mss, mst, msd, msc⟩ := T2
  have HTE := Lib.hid hte
  have Te := Lib.hid hto.1
  have HSC := Lib.hid hto.2
  have Ee := Lib.hid (OwnL.kept Ed.out hb)
  have HC2 := Lib.hid (show Value.agg #[.slice mg mls.length mc, .slice mh mss.length md, .int .i64 mst, .int .i64 msd, .float .f32 msc] = .agg (⟨mg, mc, mls, mh, md, mss, mst, msd, msc⟩ : TrsA).cells from rfl)
  clear hte hto
  have K1e := Lib.hid (K1d.out.below hb)
  have K2e := Lib.hid (K2d.out.below hb)
  have K3e := Lib.hid (K3d.out.below hb)
  have Be := Lib.hid (Below.next Bd.out hb)
  clear hb p0 p1 p2 p3 p4 p5 p6 p7 p8 p9 p10 p11 p12 p13 p14 p15 pl q0 q1 q2 q3 q4 q5 q6 q7 q8 q9 q10 q11 q12 q13 q14 q15 ql f0 f1 f2 f3 f4 f5 f6 f7 f8 f9 f10 f11 f12 f13 f14 f15
  obtain ⟨p0, p1, p2, p3, p4, p5, p6, p7, p8, p9, p10, p11, p12, p13, p14, p15, pl⟩ := tb16 K1e.out
  obtain ⟨q0, q1, q2, q3, q4, q5, q6, q7, q8, q9, q10, q11, q12, q13, q14, q15, ql⟩ := tb16 K3e.out
  obtain ⟨f0, f1, f2, f3, f4, f5, f6, f7, f8, f9, f10, f11, f12, f13, f14, f15⟩ := tbf16 K3e.out
  rw [← HC2.out]
  go_upto_region 5 with fail
  have hg : w6.grownBy (((((w6.setCell ⟨w.heap.size + 1 + 1, 11, none⟩ (.slice mg mls.length mc)).setCell ⟨w.heap.size + 1 + 1, 12, none⟩ (.slice mh mss.length md)).setCell ⟨w.heap.size + 1 + 1, 13, none⟩ (.int .i64 mst)).setCell ⟨w.heap.size + 1 + 1, 14, none⟩ (.int .i64 msd)).setCell ⟨w.heap.size + 1 + 1, 15, none⟩ (.float .f32 msc)) (some (w.heap.size + 1 + 1)) := by simpa only [setN, Nat.reduceAdd] using setN_grown [.slice mg mls.length mc, .slice mh mss.length md, .int .i64 mst, .int .i64 msd, .float .f32 msc] 11 w6
  have hk : Blk (((((w6.setCell ⟨w.heap.size + 1 + 1, 11, none⟩ (.slice mg mls.length mc)).setCell ⟨w.heap.size + 1 + 1, 12, none⟩ (.slice mh mss.length md)).setCell ⟨w.heap.size + 1 + 1, 13, none⟩ (.int .i64 mst)).setCell ⟨w.heap.size + 1 + 1, 14, none⟩ (.int .i64 msd)).setCell ⟨w.heap.size + 1 + 1, 15, none⟩ (.float .f32 msc)) (w.heap.size + 1 + 1) 50 #[.int .i64 k, .float .f32 r, .float .f32 b1, .float .f32 b2, .float .f32 ep, .int .i64 er, .int .i64 ec, .slice na ex.length ex.length, .int .i64 er2, .int .i64 ec2, .slice nb ey.length ey.length, .slice mg mls.length mc, .slice mh mss.length md, .int .i64 mst, .int .i64 msd, .float .f32 msc] := by simpa only [setN, setA, Nat.reduceAdd, List.setIfInBounds_toArray, List.set_cons_zero, List.set_cons_succ] using setN_blk [.slice mg mls.length mc, .slice mh mss.length md, .int .i64 mst, .int .i64 msd, .float .f32 msc] 11 w6 _ K3e.out
  have K3f := Lib.hid hk
  have K1f := Lib.hid (K1e.out.off hg (by omega))
  have K2f := Lib.hid (K2e.out.off hg (by omega))
  have Bf := Lib.hid (Below.at_ Be.out hg (by omega))
  have Ef := Lib.hid (Ee.out.offg hg (by have := S4.out; omega))
  have Tf := Lib.hid (Te.out.offg hg (by have := S5.out; omega))
  clear hk hg p0 p1 p2 p3 p4 p5 p6 p7 p8 p9 p10 p11 p12 p13 p14 p15 pl q0 q1 q2 q3 q4 q5 q6 q7 q8 q9 q10 q11 q12 q13 q14 q15 ql f0 f1 f2 f3 f4 f5 f6 f7 f8 f9 f10 f11 f12 f13 f14 f15
  generalize (((((w6.setCell ⟨w.heap.size + 1 + 1, 11, none⟩ (.slice mg mls.length mc)).setCell ⟨w.heap.size + 1 + 1, 12, none⟩ (.slice mh mss.length md)).setCell ⟨w.heap.size + 1 + 1, 13, none⟩ (.int .i64 mst)).setCell ⟨w.heap.size + 1 + 1, 14, none⟩ (.int .i64 msd)).setCell ⟨w.heap.size + 1 + 1, 15, none⟩ (.float .f32 msc)) = w7 at K3f K1f K2f Bf Ef Tf ⊢
  obtain ⟨q0, q1, q2, q3, q4, q5, q6, q7, q8, q9, q10, q11, q12, q13, q14, q15, ql⟩ := tb16 K3f.out
  obtain ⟨m0, m1, m2, m3, m4, m5, m6, m7, m8, m9, m10, m11, m12, m13, m14, m15, ml⟩ := tb16 K2f.out
  obtain ⟨n0, n1, n2, n3, n4, n5, n6, n7, n8, n9, n10, n11, n12, n13, n14, n15⟩ := tbf16 K2f.out
  have hg2 : w7.grownBy ((((((((((((((((w7.setCell ⟨w.heap.size + 1, 0, none⟩ (.int .i64 k)).setCell ⟨w.heap.size + 1, 1, none⟩ (.float .f32 r)).setCell ⟨w.heap.size + 1, 2, none⟩ (.float .f32 b1)).setCell ⟨w.heap.size + 1, 3, none⟩ (.float .f32 b2)).setCell ⟨w.heap.size + 1, 4, none⟩ (.float .f32 ep)).setCell ⟨w.heap.size + 1, 5, none⟩ (.int .i64 er)).setCell ⟨w.heap.size + 1, 6, none⟩ (.int .i64 ec)).setCell ⟨w.heap.size + 1, 7, none⟩ (.slice na ex.length ex.length)).setCell ⟨w.heap.size + 1, 8, none⟩ (.int .i64 er2)).setCell ⟨w.heap.size + 1, 9, none⟩ (.int .i64 ec2)).setCell ⟨w.heap.size + 1, 10, none⟩ (.slice nb ey.length ey.length)).setCell ⟨w.heap.size + 1, 11, none⟩ (.slice mg mls.length mc)).setCell ⟨w.heap.size + 1, 12, none⟩ (.slice mh mss.length md)).setCell ⟨w.heap.size + 1, 13, none⟩ (.int .i64 mst)).setCell ⟨w.heap.size + 1, 14, none⟩ (.int .i64 msd)).setCell ⟨w.heap.size + 1, 15, none⟩ (.float .f32 msc)) (some (w.heap.size + 1)) := by simpa only [setN, Nat.reduceAdd] using setN_grown [.int .i64 k, .float .f32 r, .float .f32 b1, .float .f32 b2, .float .f32 ep, .int .i64 er, .int .i64 ec, .slice na ex.length ex.length, .int .i64 er2, .int .i64 ec2, .slice nb ey.length ey.length, .slice mg mls.length mc, .slice mh mss.length md, .int .i64 mst, .int .i64 msd, .float .f32 msc] 0 w7
  have hk3 : Blk ((((((((((((((((w7.setCell ⟨w.heap.size + 1, 0, none⟩ (.int .i64 k)).setCell ⟨w.heap.size + 1, 1, none⟩ (.float .f32 r)).setCell ⟨w.heap.size + 1, 2, none⟩ (.float .f32 b1)).setCell ⟨w.heap.size + 1, 3, none⟩ (.float .f32 b2)).setCell ⟨w.heap.size + 1, 4, none⟩ (.float .f32 ep)).setCell ⟨w.heap.size + 1, 5, none⟩ (.int .i64 er)).setCell ⟨w.heap.size + 1, 6, none⟩ (.int .i64 ec)).setCell ⟨w.heap.size + 1, 7, none⟩ (.slice na ex.length ex.length)).setCell ⟨w.heap.size + 1, 8, none⟩ (.int .i64 er2)).setCell ⟨w.heap.size + 1, 9, none⟩ (.int .i64 ec2)).setCell ⟨w.heap.size + 1, 10, none⟩ (.slice nb ey.length ey.length)).setCell ⟨w.heap.size + 1, 11, none⟩ (.slice mg mls.length mc)).setCell ⟨w.heap.size + 1, 12, none⟩ (.slice mh mss.length md)).setCell ⟨w.heap.size + 1, 13, none⟩ (.int .i64 mst)).setCell ⟨w.heap.size + 1, 14, none⟩ (.int .i64 msd)).setCell ⟨w.heap.size + 1, 15, none⟩ (.float .f32 msc)) (w.heap.size + 1) 50 #[.int .i64 k, .float .f32 r, .float .f32 b1, .float .f32 b2, .float .f32 ep, .int .i64 er, .int .i64 ec, .slice na ex.length ex.length, .int .i64 er2, .int .i64 ec2, .slice nb ey.length ey.length, .slice mg mls.length mc, .slice mh mss.length md, .int .i64 mst, .int .i64 msd, .float .f32 msc] := by simpa only [setN, setA, Nat.reduceAdd, List.setIfInBounds_toArray, List.set_cons_zero, List.set_cons_succ] using setN_blk [.int .i64 k, .float .f32 r, .float .f32 b1, .float .f32 b2, .float .f32 ep, .int .i64 er, .int .i64 ec, .slice na ex.length ex.length, .int .i64 er2, .int .i64 ec2, .slice nb ey.length ey.length, .slice mg mls.length mc, .slice mh mss.length md, .int .i64 mst, .int .i64 msd, .float .f32 msc] 0 w7 _ K2f.out
  have E2 := Lib.hid (Ef.out.offg hg2 (by have := S4.out; omega))
  have T2 := Lib.hid (Tf.out.offg hg2 (by have := S5.out; omega))
  have B2 := Lib.hid (Below.at_ Bf.out hg2 (by omega))
  have HK3 := Lib.hid hk3
  clear hk3 hg2
  go_wp2_with fail
  generalize ((((((((((((((((w7.setCell ⟨w.heap.size + 1, 0, none⟩ (.int .i64 k)).setCell ⟨w.heap.size + 1, 1, none⟩ (.float .f32 r)).setCell ⟨w.heap.size + 1, 2, none⟩ (.float .f32 b1)).setCell ⟨w.heap.size + 1, 3, none⟩ (.float .f32 b2)).setCell ⟨w.heap.size + 1, 4, none⟩ (.float .f32 ep)).setCell ⟨w.heap.size + 1, 5, none⟩ (.int .i64 er)).setCell ⟨w.heap.size + 1, 6, none⟩ (.int .i64 ec)).setCell ⟨w.heap.size + 1, 7, none⟩ (.slice na ex.length ex.length)).setCell ⟨w.heap.size + 1, 8, none⟩ (.int .i64 er2)).setCell ⟨w.heap.size + 1, 9, none⟩ (.int .i64 ec2)).setCell ⟨w.heap.size + 1, 10, none⟩ (.slice nb ey.length ey.length)).setCell ⟨w.heap.size + 1, 11, none⟩ (.slice mg mls.length mc)).setCell ⟨w.heap.size + 1, 12, none⟩ (.slice mh mss.length md)).setCell ⟨w.heap.size + 1, 13, none⟩ (.int .i64 mst)).setCell ⟨w.heap.size + 1, 14, none⟩ (.int .i64 msd)).setCell ⟨w.heap.size + 1, 15, none⟩ (.float .f32 msc)) = w8 at E2 T2 B2 HK3 ⊢
  obtain ⟨z0, z1, z2, z3, z4, z5, z6, z7, z8, z9, z10, z11, z12, z13, z14, z15, zl⟩ := tb16 HK3.out
  refine bodyPost_ret (v := .agg #[.int .i64 k, .float .f32 r, .float .f32 b1, .float .f32 b2, .float .f32 ep, .int .i64 er, .int .i64 ec, .slice na ex.length ex.length, .int .i64 er2, .int .i64 ec2, .slice nb ey.length ey.length, .slice mg mls.length mc, .slice mh mss.length md, .int .i64 mst, .int .i64 msd, .float .f32 msc]) (by simp [results, Try.results14, go_sem, z0, z1, z2, z3, z4, z5, z6, z7, z8, z9, z10, z11, z12, z13, z14, z15]) rfl ?_
  have t3 : TrsOwn _ _ (⟨mg, mc, mls, mh, md, mss, mst, msd, msc⟩ : TrsA) := ⟨T2.out, HSC.out⟩
  have e3 := E2.out
  simp only [OwnL, flC_own, and_true] at e3
  refine ⟨⟨k, r, b1, b2, ep, er, ec, er2, ec2, ex, ey, na, nb, ex.length, ey.length, ⟨mg, mc, mls, mh, md, mss, mst, msd, msc⟩⟩, rfl, ⟨⟨rfl, rfl, rfl, rfl, rfl⟩, ⟨rfl, rfl, rfl, rfl, rfl, rfl⟩, by rw [HT.out]; exact HTE.out⟩, ⟨⟨e3.1.isFloats, e3.2.isFloats⟩, t3.at, WK.out⟩, B2.out⟩
end Go.Proofs.Ytaipegkkpkagnaa
