/-
  Some rows of a tensor, as the program and its model take them. Conditions: the numbers can be read.
-/
import Derived.Test.YtijjmljdkpdigaaEach
namespace Go.Proofs.Ytijjmljdkpdigaa
open Go.RowKit Go.Deep Go.WideShapes Go.ChangeShapes

def sliceOk (r f n : Int) : Bool := (decide (0 ≤ f) && decide (f ≤ r - 1)) && (decide (1 ≤ n) && decide (n ≤ r - f))
def vSliceRows (r c : Int) (z : List Nat) (f n : Int) : Int × Int × Bool × List Nat := if (vokB r c z.length && sliceOk r f n) = true then (n, c, true, ((z.drop (f.toNat * c.toNat)).take (n.toNat * c.toNat)).map (canon .f32)) else (0, 0, false, [])
theorem vSliceRows_len (r c : Int) (z : List Nat) (f n : Int) : (vSliceRows r c z f n).2.2.2.length ≤ 1048576 := by
  unfold vSliceRows
  split
  · rename_i h
    simp only [Bool.and_eq_true] at h
    obtain ⟨R, C, rfl, rfl, h1, h2, h3, h4, h5⟩ := vok_nat h.1
    have := (row_facts (A := 0) (n := z.length) (cap := 0) h2 h3 h4 (by omega) h5).2.1
    simp; omega
  · simp
theorem slice_nat {R : Nat} {f n : Int} (h : sliceOk R f n = true) : ∃ A M : Nat, f = A ∧ n = M ∧ 1 ≤ M ∧ A + M ≤ R := by
  simp only [sliceOk, Bool.and_eq_true, decide_eq_true_eq] at h
  exact ⟨f.toNat, n.toNat, by omega, by omega, by omega, by omega⟩
theorem slice_facts {R C A M n : Nat} (hR : R ≤ 16) (hC0 : 1 ≤ C) (hC : C ≤ 16) (hM : 1 ≤ M) (hA : A + M ≤ R) (hn : n = R * C) :
    A * C < (A + M) * C ∧ (A + M) * C ≤ n ∧ n ≤ 256 ∧ (A : Int) * (C : Int) = ((A * C : Nat) : Int) ∧ ((A : Int) + (M : Int)) * (C : Int) = (((A + M) * C : Nat) : Int) ∧ (A + M) * C - A * C = M * C := by
  have e1 : (A + M) * C ≤ R * C := Nat.mul_le_mul_right C hA
  have e2 : (A + M) * C = A * C + M * C := Nat.add_mul ..
  have e3 : R * C ≤ 16 * 16 := Nat.mul_le_mul hR hC
  have e4 : 1 * 1 ≤ M * C := Nat.mul_le_mul hM hC0
  refine ⟨by omega, by omega, by omega, (Int.natCast_mul A C).symm, ?_, by omega⟩
  rw [Int.natCast_mul, Int.natCast_add]
theorem vSliceRows_no {r c : Int} {z : List Nat} {f n : Int} (h : (vokB r c z.length && sliceOk r f n) = false) : vSliceRows r c z f n = (0, 0, false, []) := by unfold vSliceRows; rw [if_neg (by rw [h]; decide)]
theorem vSliceRows_yes {R C A M : Nat} {z zr : List Nat} (h : vokB R C z.length = true) (h' : sliceOk R A M = true) (hz : (z.drop (A * C)).take (M * C) = zr) : vSliceRows R C z A M = ((M : Int), (C : Int), true, zr.map (canon .f32)) := by subst hz; unfold vSliceRows; rw [if_pos (by rw [h, h']; rfl)]; simp
theorem slice_box {w wr : World} {M C : Int} {b : Option Addr} {c rc : Nat} {zr : List Nat} (hrc : w.heap.size ≤ rc) (ho : OwnF wr w.heap.size b c zr) (hl : Below w.heap.size w wr) (hr : Blk wr rc 27 #[.int .i64 0, .int .i64 0, .slice none 0 0]) :
    RetV M C (zr.map (canon .f32)) w (.returned (.agg #[.int .i64 M, .int .i64 C, .slice b zr.length c])) (((wr.setCell ⟨rc, 0, none⟩ (.int .i64 M)).setCell ⟨rc, 1, none⟩ (.int .i64 C)).setCell ⟨rc, 2, none⟩ (.slice b zr.length c)) :=
  ⟨b, c, zr, rfl, ho.off (store3 hr).2 hr (by decide), rfl, ((hl.setCell hrc _).setCell hrc _).setCell hrc _⟩

set_option maxHeartbeats 2000000 in
theorem c_l02Slice (g : Nat) (R C A M : Nat) (a : Option Addr) (n cap : Nat) (zs : List Nat) (w : World) (h : IsFloats .f32 w a n cap zs) (hR : R ≤ 16) (hC0 : 1 ≤ C) (hC : C ≤ 16) (hM : 1 ≤ M) (hA : A + M ≤ R) (hn : n = R * C) (zr : List Nat) (hr : (zs.drop (A * C)).take (M * C) = zr)
    (h1 : w.cell? ⟨g, 1, none⟩ = some (.int .i64 C)) (h2 : w.cell? ⟨g, 2, none⟩ = some (.slice a n cap)) :
    Calls Try.prog 66 #[.pointer (some ⟨g, 0, none⟩), .int .i64 A, .int .i64 M] w (RetV M C (zr.map (canon .f32)) w) := by
  obtain ⟨f1, f2, f3, f4, f5, f6⟩ := slice_facts hR hC0 hC hM hA hn
  obtain ⟨b, off, rfl⟩ : ∃ b off, a = some ⟨b, off, none⟩ := by
    rcases h.2.2.2.2 with h' | ⟨b, off, rfl, _⟩
    · omega
    · exact ⟨b, off, rfl⟩
  obtain ⟨P, hP⟩ : ∃ P, A * C = P := ⟨_, rfl⟩
  obtain ⟨Q, hQ⟩ : ∃ Q, (A + M) * C = Q := ⟨_, rfl⟩
  rw [hP] at f1 f4 f6
  rw [hQ] at f1 f2 f5 f6
  have hcap := h.1
  have hcm : cap ≤ 9223372036854775807 := by have := h.2.1; unfold maxLen at this; omega
  have hf0 := h.part P Q (by omega) (by omega) (cap - P) (by omega) (by have := h.2.1; omega)
  have hzr : (zs.drop P).take (Q - P) = zr := by rw [← hr, hP, f6]
  rw [hzr] at hf0
  have HF := Lib.hid hf0
  have HG := Lib.hid (cell_block h1)
  have hg : g < w.heap.size := cell_block h1
  have hq1 : (P : Int) < (Q : Int) := by omega
  have hq2 : (Q : Int) ≤ (n : Int) := by omega
  have hq3 : (Q : Int) ≤ (cap : Int) := by omega
  have hq0 : (0 : Int) ≤ (P : Int) := by omega
  have hq4 : P ≤ Q := by omega
  have hne : ¬ cap = P := by omega
  have k1 : IntKind.i64.wrap ((A : Int) * (C : Int)) = (P : Int) := by rw [f4]; exact IntWalk.i64_in _ (by omega)
  have k2 : IntKind.i64.wrap ((A : Int) + (M : Int)) = (A : Int) + (M : Int) := IntWalk.i64_in _ (by omega)
  have k3 : IntKind.i64.wrap (((A : Int) + (M : Int)) * (C : Int)) = (Q : Int) := by rw [f5]; exact IntWalk.i64_in _ (by omega)
  have H1 := Lib.hid h1
  have H2 := Lib.hid h2
  clear h f1 f2 f4 f5 f6 hP hQ hf0 hzr hn hr h1 h2
  go_enter Try.func66, Try.ntmps66
  go_wp2_with fail
  have hk := Blk.new w 27 #[.int .i64 0, .int .i64 0, .slice none 0 0]
  have bl := (Below.refl w.heap.size w).alloc (Nat.le_refl _) (.cells #[.int .i64 0, .int .i64 0, .slice none 0 0] 27)
  have HK := Lib.hid hk
  have HB0 := Lib.hid bl
  have HF1 := Lib.hid (HF.out.kept bl)
  have h1 := (bl.cell (p := ⟨g, 1, none⟩) HG.out).trans H1.out
  have h2 := (bl.cell (p := ⟨g, 2, none⟩) HG.out).trans H2.out
  have hg1 : g < (w.alloc (.cells #[.int .i64 0, .int .i64 0, .slice none 0 0] 27)).heap.size := cell_block h1
  obtain ⟨r0, r1, r2, r3⟩ := tb hk
  obtain ⟨e0, e1, e2⟩ := tbf hk
  clear hk bl hg
  generalize w.alloc (.cells #[.int .i64 0, .int .i64 0, .slice none 0 0] 27) = w1 at HK HB0 HF1 h1 h2 hg1 r0 r1 r2 r3 e0 e1 e2 ⊢
  have hgr : w.heap.size ≠ g := Nat.ne_of_gt HG.out
  go_region_held3 (fun w' => w'.cell? ⟨g, 1, none⟩ = some (.int .i64 C) ∧ w'.cell? ⟨g, 2, none⟩ = some (.slice (some ⟨b, off, none⟩) n cap)) (go_keep)
    (first
      | (go_at_call 82
         refine (c_l02Own _ _ _ _ _ (by have := HF1.out.kept ((Below.refl w1.heap.size w1).drew); simpa [add_plain] using this) (by omega)).mono ?_
         rintro e w2 ⟨b', c', rfl, hf, hb⟩
         have hb1 : Below w1.heap.size w1 w2 := ((Below.refl _ _).drew).trans hb
         have HW := Lib.hid (hf.base (B' := w.heap.size) HB0.out.size)
         have HB := Lib.hid (Below.next HB0.out hb1)
         have HK2 := Lib.hid (HK.out.below hb1)
         have q1 := (hb1.cell (p := ⟨g, 1, none⟩) hg1).trans h1
         have q2 := (hb1.cell (p := ⟨g, 2, none⟩) hg1).trans h2
         clear hf hb hb1 h1 h2 r0 r1 r2 r3 e0 e1 e2
         obtain ⟨r0, r1, r2, r3⟩ := tb HK2.out
         obtain ⟨e0, e1, e2⟩ := tbf HK2.out))
  go_wp2_with fail
  exact bodyPost_ret (v := .agg #[.int .i64 M, .int .i64 C, .slice b' zr.length c']) (by simp [results, Try.results66, go_sem, r0, r1, r2]) rfl (slice_box (Nat.le_refl _) HW.out HB.out HK2.out)
end Go.Proofs.Ytijjmljdkpdigaa
