/-
  Products of tensors that fit, as the program makes them. Conditions: the numbers can be read.
-/
import Derived.Test.YtkfpaehalfjhhaaMll
namespace Go.Proofs.Ytkfpaehalfjhhaa
open Go.RowKit Go.Deep Go.WideShapes Go.ChangeShapes

set_option linter.unusedVariables false in
set_option maxRecDepth 20000 in
set_option maxHeartbeats 2000000 in
theorem c_multiplyYes (D : FuncId) (caps : Array Value) (dotv : List Nat → List Nat → Nat) (R M K : Nat) (za : List Nat) (zb : List Nat) (a0 a1 : Option Addr) (w : World) (w0 : IsFloats .f32 w a0 za.length za.length za) (w1 : IsFloats .f32 w a1 zb.length zb.length zb) (hv : vokB R M za.length = true) (hv2 : vokB M K zb.length = true) (hD : DotOk D caps dotv w) (r1 : 1 ≤ R) (r2 : R ≤ 16) (m1 : 1 ≤ M) (m2 : M ≤ 16) (k1 : 1 ≤ K) (k2 : K ≤ 16) (hna : za.length = R * M) (hnb : zb.length = M * K) :
    Calls Try.prog 49 #[.agg #[.int .i64 (R : Int), .int .i64 (M : Int), .slice a0 za.length za.length], .agg #[.int .i64 (M : Int), .int .i64 (K : Int), .slice a1 zb.length zb.length], .func (.func D) #[] caps] w (RetT R K true ((List.range (R * K)).map (mulF dotv za zb M K)) w) := by
  have HV := Lib.hid hv
  have HV2 := Lib.hid hv2
  have HML := Lib.hid (fun (W : World) (hb : Below w.heap.size w W) => c_multiplyLists D caps dotv R M K za zb a0 a1 za.length zb.length za.length zb.length W (w0.kept hb) (w1.kept hb) (hD.later hb) r1 r2 m1 m2 k1 k2 hna hnb)
  obtain ⟨vals, hvals⟩ : ∃ vals, ((List.range (R * K)).map (mulF dotv za zb M K)) = vals := ⟨_, rfl⟩
  rw [hvals] at HML ⊢
  have heq : ((M : Int) != (M : Int)) = false := by simp
  clear hv hv2 hD hna hnb w0 w1 hvals
  go_enter Try.func49, Try.ntmps49
  go_wp2_with fail
  have B_4 := Lib.hid ((((Below.refl w.heap.size w).alloc (Nat.le_refl _) (.cells #[.int .i64 (R : Int), .int .i64 (M : Int), .slice a0 za.length za.length] 26)).alloc (by simp) (.cells #[.int .i64 (M : Int), .int .i64 (K : Int), .slice a1 zb.length zb.length] 26)).alloc (by simp; omega) (.cells #[.int .i64 0, .int .i64 0, .slice none 0 0] 26))
  have hK := ((Blk.new w 26 #[.int .i64 (R : Int), .int .i64 (M : Int), .slice a0 za.length za.length]).below ((Below.refl _ _).alloc (Nat.le_refl _) (.cells #[.int .i64 (M : Int), .int .i64 (K : Int), .slice a1 zb.length zb.length] 26))).below ((Below.refl _ _).alloc (Nat.le_refl _) (.cells #[.int .i64 0, .int .i64 0, .slice none 0 0] 26))
  have hL := (Blk.new (w.alloc (.cells #[.int .i64 (R : Int), .int .i64 (M : Int), .slice a0 za.length za.length] 26)) 26 #[.int .i64 (M : Int), .int .i64 (K : Int), .slice a1 zb.length zb.length]).below ((Below.refl _ _).alloc (Nat.le_refl _) (.cells #[.int .i64 0, .int .i64 0, .slice none 0 0] 26))
  have hQ := Blk.new ((w.alloc (.cells #[.int .i64 (R : Int), .int .i64 (M : Int), .slice a0 za.length za.length] 26)).alloc (.cells #[.int .i64 (M : Int), .int .i64 (K : Int), .slice a1 zb.length zb.length] 26)) 26 #[.int .i64 0, .int .i64 0, .slice none 0 0]
  simp only [World.size_alloc] at hL hQ
  have K_4 := Lib.hid hK
  have L_4 := Lib.hid hL
  have Q_4 := Lib.hid hQ
  clear hK hL hQ
  generalize ((w.alloc (.cells #[.int .i64 (R : Int), .int .i64 (M : Int), .slice a0 za.length za.length] 26)).alloc (.cells #[.int .i64 (M : Int), .int .i64 (K : Int), .slice a1 zb.length zb.length] 26)).alloc (.cells #[.int .i64 0, .int .i64 0, .slice none 0 0] 26) = w4 at B_4 K_4 L_4 Q_4 ⊢
  refine (c_iValid (R : Int) (M : Int) _ _ _ true HV.out _).mono ?_
  rintro e w5 ⟨rfl, bl⟩
  have B_5 := Lib.hid (Below.next B_4.out bl)
  have K_5 := Lib.hid (K_4.out.below bl)
  have L_5 := Lib.hid (L_4.out.below bl)
  have Q_5 := Lib.hid (Q_4.out.below bl)
  clear bl B_4 K_4 L_4 Q_4
  obtain ⟨pK0, pK1, pK2, pK3⟩ := tb K_5.out
  obtain ⟨pL0, pL1, pL2, pL3⟩ := tb L_5.out
  obtain ⟨pQ0, pQ1, pQ2, pQ3⟩ := tb Q_5.out
  obtain ⟨fq0, fq1, fq2⟩ := tbf Q_5.out
  go_wp2_with fail
  clear pK0 pK1 pK2 pK3 pL0 pL1 pL2 pL3 pQ0 pQ1 pQ2 pQ3 fq0 fq1 fq2
  refine (c_iValid (M : Int) (K : Int) _ _ _ true HV2.out _).mono ?_
  rintro e w6 ⟨rfl, bl⟩
  have B_6 := Lib.hid (Below.next B_5.out bl)
  have K_6 := Lib.hid (K_5.out.below bl)
  have L_6 := Lib.hid (L_5.out.below bl)
  have Q_6 := Lib.hid (Q_5.out.below bl)
  clear bl B_5 K_5 L_5 Q_5
  obtain ⟨pK0, pK1, pK2, pK3⟩ := tb K_6.out
  obtain ⟨pL0, pL1, pL2, pL3⟩ := tb L_6.out
  obtain ⟨pQ0, pQ1, pQ2, pQ3⟩ := tb Q_6.out
  obtain ⟨fq0, fq1, fq2⟩ := tbf Q_6.out
  go_wp2_with fail
  obtain ⟨gq, hgq⟩ : ∃ gq, w.heap.size + 1 + 1 = gq := ⟨_, rfl⟩
  obtain ⟨gl, hgl⟩ : ∃ gl, w.heap.size + 1 = gl := ⟨_, rfl⟩
  have n1 : w.heap.size ≠ gq := by omega
  have n2 : gl ≠ gq := by omega
  have n3 : gq ≠ w.heap.size := by omega
  have n4 : gq ≠ gl := by omega
  have NQ := Lib.hid (show w.heap.size ≤ gq by omega)
  rw [hgq] at Q_6 pQ0 pQ1 pQ2 pQ3 fq0 fq1 fq2
  rw [hgl] at L_6 pL0 pL1 pL2 pL3
  simp only [hgq]
  simp only [hgl]
  clear hgq hgl
  have HMM := Lib.hid (HML.out w6.drew (Below.next B_6.out ((Below.refl _ _).drew)))
  clear HML
  go_region_held3 (fun w' => w'.cell? ⟨w.heap.size, 0, none⟩ = some (.int .i64 (R : Int)) ∧ w'.cell? ⟨w.heap.size, 1, none⟩ = some (.int .i64 (M : Int)) ∧ w'.cell? ⟨w.heap.size, 2, none⟩ = some (.slice a0 za.length za.length) ∧ w'.cell? ⟨gl, 1, none⟩ = some (.int .i64 (K : Int)) ∧ w'.cell? ⟨gl, 2, none⟩ = some (.slice a1 zb.length zb.length)) (go_keep)
    (first
      | (go_at_call 96
         refine HMM.out.mono ?_
         rintro e w8 ⟨b, cc, ys, rfl, hf, hy, hb⟩
         have bl : Below w6.heap.size w6 w8 := ((Below.refl _ _).drew).trans hb
         have HW := Lib.hid (OwnF.base (B' := w.heap.size) hf B_6.out.size)
         have HY := Lib.hid hy
         clear hf hy hb pK0 pK1 pK2 pK3 pL0 pL1 pL2 pL3 pQ0 pQ1 pQ2 pQ3 fq0 fq1 fq2
         have B_8 := Lib.hid (Below.next B_6.out bl)
         have K_8 := Lib.hid (K_6.out.below bl)
         have L_8 := Lib.hid (L_6.out.below bl)
         have Q_8 := Lib.hid (Q_6.out.below bl)
         clear bl B_6 K_6 L_6 Q_6
         obtain ⟨pK0, pK1, pK2, pK3⟩ := tb K_8.out
         obtain ⟨pL0, pL1, pL2, pL3⟩ := tb L_8.out
         obtain ⟨pQ0, pQ1, pQ2, pQ3⟩ := tb Q_8.out
         obtain ⟨fq0, fq1, fq2⟩ := tbf Q_8.out))
  go_wp2_with fail
  exact bodyPost_ret (v := .tuple #[.agg #[.int .i64 R, .int .i64 K, .slice b ys.length cc], .bool true]) (by simp [results, Try.results49, go_sem, pQ0, pQ1, pQ2]) rfl ⟨b, cc, ys, rfl, HW.out.off (store3 Q_8.out).2 Q_8.out (by decide), HY.out, ((B_8.out.setCell NQ.out _).setCell NQ.out _).setCell NQ.out _⟩
end Go.Proofs.Ytkfpaehalfjhhaa
