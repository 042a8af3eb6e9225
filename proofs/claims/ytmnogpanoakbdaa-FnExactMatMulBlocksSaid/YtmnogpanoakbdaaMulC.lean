/-
  Products of tensors that fit, as the program makes them. Conditions: the numbers can be read.
-/
import Derived.Test.YtmnogpanoakbdaaMulA
namespace Go.Proofs.Ytmnogpanoakbdaa
open Go.RowKit Go.Deep Go.WideShapes Go.ChangeShapes

set_option maxRecDepth 20000 in
set_option maxHeartbeats 2000000 in
theorem c_multiplyYes (D : FuncId) (caps : Array Value) (dotv : List Nat → List Nat → Nat) (R M K : Nat) (za : List Nat) (zb : List Nat) (a0 a1 : Option Addr) (w : World) (w0 : IsFloats .f32 w a0 za.length za.length za) (w1 : IsFloats .f32 w a1 zb.length zb.length zb) (hv : vokB R M za.length = true) (hv2 : vokB M K zb.length = true) (hD : DotOk D caps dotv w) (r1 : 1 ≤ R) (r2 : R ≤ 16) (m1 : 1 ≤ M) (m2 : M ≤ 16) (k1 : 1 ≤ K) (k2 : K ≤ 16) (hna : za.length = R * M) (hnb : zb.length = M * K) :
    Calls Try.prog 85 #[.agg #[.int .i64 (R : Int), .int .i64 (M : Int), .slice a0 za.length za.length], .agg #[.int .i64 (M : Int), .int .i64 (K : Int), .slice a1 zb.length zb.length], .func (.func D) #[] caps] w (RetT R K true ((List.range (R * K)).map (mulF dotv za zb M K)) w) := by
  have HV := Lib.hid hv
  have HV2 := Lib.hid hv2
  have HD := Lib.hid hD
  have HNA := Lib.hid hna
  have HNB := Lib.hid hnb
  have HA := Lib.hid w0
  have HBB := Lib.hid w1
  obtain ⟨vals, hvals⟩ : ∃ vals, ((List.range (R * K)).map (mulF dotv za zb M K)) = vals := ⟨_, rfl⟩
  have HVAL := Lib.hid ((mul_flat dotv za zb M K R).trans hvals)
  rw [hvals]
  have heq : ((M : Int) != (M : Int)) = false := by simp
  clear hv hv2 hD hna hnb w0 w1 hvals
  go_enter Try.func85, Try.ntmps85
  go_wp2_with fail
  have B_0 := Lib.hid (Below.refl w.heap.size w)
  have bl := (Below.refl (w).heap.size (w)).alloc (Nat.le_refl _) (.cells #[.int .i64 (R : Int), .int .i64 (M : Int), .slice a0 za.length za.length] 26)
  have hn := Blk.new (w) 26 #[.int .i64 (R : Int), .int .i64 (M : Int), .slice a0 za.length za.length]
  have B_1 := Lib.hid (Below.next B_0.out bl)
  clear bl B_0
  have K_1 := Lib.hid hn
  clear hn
  have bl := (Below.refl ((w).alloc (.cells #[.int .i64 (R : Int), .int .i64 (M : Int), .slice a0 za.length za.length] 26)).heap.size ((w).alloc (.cells #[.int .i64 (R : Int), .int .i64 (M : Int), .slice a0 za.length za.length] 26))).alloc (Nat.le_refl _) (.cells #[.int .i64 (M : Int), .int .i64 (K : Int), .slice a1 zb.length zb.length] 26)
  have hn := Blk.new ((w).alloc (.cells #[.int .i64 (R : Int), .int .i64 (M : Int), .slice a0 za.length za.length] 26)) 26 #[.int .i64 (M : Int), .int .i64 (K : Int), .slice a1 zb.length zb.length]
  simp only [World.size_alloc] at hn
  have B_2 := Lib.hid (Below.next B_1.out bl)
  have K_2 := Lib.hid (K_1.out.below bl)
  clear bl B_1 K_1
  have L_2 := Lib.hid hn
  clear hn
  have bl := (Below.refl (((w).alloc (.cells #[.int .i64 (R : Int), .int .i64 (M : Int), .slice a0 za.length za.length] 26)).alloc (.cells #[.int .i64 (M : Int), .int .i64 (K : Int), .slice a1 zb.length zb.length] 26)).heap.size (((w).alloc (.cells #[.int .i64 (R : Int), .int .i64 (M : Int), .slice a0 za.length za.length] 26)).alloc (.cells #[.int .i64 (M : Int), .int .i64 (K : Int), .slice a1 zb.length zb.length] 26))).alloc (Nat.le_refl _) (.cells #[.func (.func D) #[] caps] 88)
  have hn := Blk.new (((w).alloc (.cells #[.int .i64 (R : Int), .int .i64 (M : Int), .slice a0 za.length za.length] 26)).alloc (.cells #[.int .i64 (M : Int), .int .i64 (K : Int), .slice a1 zb.length zb.length] 26)) 88 #[.func (.func D) #[] caps]
  simp only [World.size_alloc] at hn
  have B_3 := Lib.hid (Below.next B_2.out bl)
  have K_3 := Lib.hid (K_2.out.below bl)
  have L_3 := Lib.hid (L_2.out.below bl)
  clear bl B_2 K_2 L_2
  have D_3 := Lib.hid hn
  clear hn
  have bl := (Below.refl ((((w).alloc (.cells #[.int .i64 (R : Int), .int .i64 (M : Int), .slice a0 za.length za.length] 26)).alloc (.cells #[.int .i64 (M : Int), .int .i64 (K : Int), .slice a1 zb.length zb.length] 26)).alloc (.cells #[.func (.func D) #[] caps] 88)).heap.size ((((w).alloc (.cells #[.int .i64 (R : Int), .int .i64 (M : Int), .slice a0 za.length za.length] 26)).alloc (.cells #[.int .i64 (M : Int), .int .i64 (K : Int), .slice a1 zb.length zb.length] 26)).alloc (.cells #[.func (.func D) #[] caps] 88))).alloc (Nat.le_refl _) (.cells #[.int .i64 0, .int .i64 0, .slice none 0 0] 26)
  have hn := Blk.new ((((w).alloc (.cells #[.int .i64 (R : Int), .int .i64 (M : Int), .slice a0 za.length za.length] 26)).alloc (.cells #[.int .i64 (M : Int), .int .i64 (K : Int), .slice a1 zb.length zb.length] 26)).alloc (.cells #[.func (.func D) #[] caps] 88)) 26 #[.int .i64 0, .int .i64 0, .slice none 0 0]
  simp only [World.size_alloc] at hn
  have B_4 := Lib.hid (Below.next B_3.out bl)
  have K_4 := Lib.hid (K_3.out.below bl)
  have L_4 := Lib.hid (L_3.out.below bl)
  have D_4 := Lib.hid (D_3.out.below bl)
  clear bl B_3 K_3 L_3 D_3
  have Q_4 := Lib.hid hn
  clear hn
  generalize ((((w).alloc (.cells #[.int .i64 (R : Int), .int .i64 (M : Int), .slice a0 za.length za.length] 26)).alloc (.cells #[.int .i64 (M : Int), .int .i64 (K : Int), .slice a1 zb.length zb.length] 26)).alloc (.cells #[.func (.func D) #[] caps] 88)).alloc (.cells #[.int .i64 0, .int .i64 0, .slice none 0 0] 26) = w4 at B_4 K_4 L_4 D_4 Q_4 ⊢
  refine (c_iValid (R : Int) (M : Int) _ _ _ true HV.out _).mono ?_
  rintro e w5 ⟨rfl, bl⟩
  have B_5 := Lib.hid (Below.next B_4.out bl)
  have K_5 := Lib.hid (K_4.out.below bl)
  have L_5 := Lib.hid (L_4.out.below bl)
  have D_5 := Lib.hid (D_4.out.below bl)
  have Q_5 := Lib.hid (Q_4.out.below bl)
  clear bl B_4 K_4 L_4 D_4 Q_4
  obtain ⟨pK0, pK1, pK2, pK3⟩ := tb K_5.out
  obtain ⟨pL0, pL1, pL2, pL3⟩ := tb L_5.out
  obtain ⟨pQ0, pQ1, pQ2, pQ3⟩ := tb Q_5.out
  obtain ⟨fq0, fq1, fq2⟩ := tbf Q_5.out
  go_wp2_with fail
  clear pK0 pK1 pK2 pK3 pL0 pL1 pL2 pL3 pQ0 pQ1 pQ2 pQ3 fq0 fq1 fq2
  refine (c_iValid (M : Int) (K : Int) _ _ _ true HV2.out _).mono ?_
  rintro e w6 ⟨rfl, bl⟩
  have B_6 := Lib.hid (Below.next B_5.out bl)
  have K_6 := Lib.hid (K_5.out.below bl)
  have L_6 := Lib.hid (L_5.out.below bl)
  have D_6 := Lib.hid (D_5.out.below bl)
  have Q_6 := Lib.hid (Q_5.out.below bl)
  clear bl B_5 K_5 L_5 D_5 Q_5
  obtain ⟨pK0, pK1, pK2, pK3⟩ := tb K_6.out
  obtain ⟨pL0, pL1, pL2, pL3⟩ := tb L_6.out
  obtain ⟨pQ0, pQ1, pQ2, pQ3⟩ := tb Q_6.out
  obtain ⟨fq0, fq1, fq2⟩ := tbf Q_6.out
  go_wp2_with fail
  clear pK0 pK1 pK2 pK3 pL0 pL1 pL2 pL3 pQ0 pQ1 pQ2 pQ3 fq0 fq1 fq2
  refine (c_takeRows 92 106 #[.pointer (some ⟨w.heap.size + 1, 0, none⟩), .pointer (some ⟨w.heap.size + 1 + 1, 0, none⟩)] (fun i => rowL za M i) (mulRow dotv za zb M K) R M a0 za.length za.length R _ (by omega)
    (enters_of Try.func92 (by kernel_rfl) (by kernel_rfl)) (enters_of Try.func106 (by kernel_rfl) (by kernel_rfl))
    (fun i wr hi hb => c_iRow R M i a0 za.length za.length za wr ((HA.out.kept B_6.out).kept hb) r2 m1 m2 hi HNA.out _ rfl)
    (fun i b c wr hi hb hf => by
      rw [rowL_length HNA.out hi] at hf ⊢
      have L := L_6.out.below hb
      have D := D_6.out.below hb
      exact c_mb1 _ caps dotv (w.heap.size + 1) (w.heap.size + 1 + 1) M K (rowL za M i) zb b a1 c zb.length zb.length w wr HD.out m2 m1 k2 HNB.out hf ((HBB.out.kept B_6.out).kept hb) (Below.next B_6.out hb) (L.cell 0) (L.cell 1) (L.cell 2) (D.cell 0))).mono ?_
  rintro e w7 ⟨gR, rs, rfl, hlen, hro, hok, bl⟩
  have HLEN := Lib.hid hlen
  have HRO := Lib.hid hro
  have HOK := Lib.hid hok
  clear hlen hro hok
  have B_7 := Lib.hid (Below.next B_6.out bl)
  have K_7 := Lib.hid (K_6.out.below bl)
  have L_7 := Lib.hid (L_6.out.below bl)
  have D_7 := Lib.hid (D_6.out.below bl)
  have Q_7 := Lib.hid (Q_6.out.below bl)
  clear bl B_6 K_6 L_6 D_6 Q_6
  obtain ⟨pK0, pK1, pK2, pK3⟩ := tb K_7.out
  obtain ⟨pL0, pL1, pL2, pL3⟩ := tb L_7.out
  obtain ⟨pQ0, pQ1, pQ2, pQ3⟩ := tb Q_7.out
  obtain ⟨fq0, fq1, fq2⟩ := tbf Q_7.out
  go_wp2_with fail
  obtain ⟨gq, hgq⟩ : ∃ gq, w.heap.size + 1 + 1 + 1 = gq := ⟨_, rfl⟩
  obtain ⟨gl, hgl⟩ : ∃ gl, w.heap.size + 1 = gl := ⟨_, rfl⟩
  have n1 : w.heap.size ≠ gq := by omega
  have n2 : gl ≠ gq := by omega
  have n3 : gq ≠ w.heap.size := by omega
  have n4 : gq ≠ gl := by omega
  have NQ := Lib.hid (show w.heap.size ≤ gq by omega)
  rw [hgq] at Q_7 pQ0 pQ1 pQ2 pQ3 fq0 fq1 fq2
  rw [hgl] at L_7 pL0 pL1 pL2 pL3
  simp only [hgq]
  simp only [hgl]
  clear hgq hgl
  have CC := c_concat gR R K w6.heap.size rs (mulRow dotv za zb M K) w7.drew HLEN.out r1 k1 (by have := Nat.mul_le_mul r2 k2; omega) (fun i _ => by simp [mulRow]) HRO.out (HOK.out.kept ((Below.refl w7.heap.size w7).drew))
  have HCC := Lib.hid CC
  clear CC
  go_region_held3 (fun w' => w'.cell? ⟨w.heap.size, 0, none⟩ = some (.int .i64 (R : Int)) ∧ w'.cell? ⟨gl, 1, none⟩ = some (.int .i64 (K : Int))) (go_keep)
    (first
      | (go_at_call 108
         refine HCC.out.mono ?_
         rintro e w8 ⟨b, cc, ys, rfl, hf, hy, hb⟩
         have bl : Below w7.heap.size w7 w8 := ((Below.refl _ _).drew).trans hb
         have HW := Lib.hid (hf.base (B' := w.heap.size) B_7.out.size)
         have HY := Lib.hid (hy.trans HVAL.out)
         clear hf hy hb pK0 pK1 pK2 pK3 pL0 pL1 pL2 pL3 pQ0 pQ1 pQ2 pQ3 fq0 fq1 fq2
         have B_8 := Lib.hid (Below.next B_7.out bl)
         have K_8 := Lib.hid (K_7.out.below bl)
         have L_8 := Lib.hid (L_7.out.below bl)
         have D_8 := Lib.hid (D_7.out.below bl)
         have Q_8 := Lib.hid (Q_7.out.below bl)
         clear bl B_7 K_7 L_7 D_7 Q_7
         obtain ⟨pK0, pK1, pK2, pK3⟩ := tb K_8.out
         obtain ⟨pL0, pL1, pL2, pL3⟩ := tb L_8.out
         obtain ⟨pQ0, pQ1, pQ2, pQ3⟩ := tb Q_8.out
         obtain ⟨fq0, fq1, fq2⟩ := tbf Q_8.out))
  go_wp2_with fail
  exact bodyPost_ret (v := .tuple #[.agg #[.int .i64 R, .int .i64 K, .slice b ys.length cc], .bool true]) (by simp [results, Try.results85, go_sem, pQ0, pQ1, pQ2]) rfl ⟨b, cc, ys, rfl, HW.out.off (store3 Q_8.out).2 Q_8.out (by decide), HY.out, ((B_8.out.setCell NQ.out _).setCell NQ.out _).setCell NQ.out _⟩
end Go.Proofs.Ytmnogpanoakbdaa
