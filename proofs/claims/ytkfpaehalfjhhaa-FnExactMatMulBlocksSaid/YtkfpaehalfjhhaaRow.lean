/-
  Rows of a tensor, as the program and its model take them. Conditions: the tensor's numbers can be read.
-/
import Derived.Test.YtkfpaehalfjhhaaApp
import Derived.IntWalk
namespace Go.Proofs.Ytkfpaehalfjhhaa
open Go.RowKit Go.Deep Go.WideShapes Go.ChangeShapes

def RetRow (zs : List Nat) (w : World) (e : Ending) (w' : World) : Prop := ∃ b c, e = .returned (.slice b zs.length c) ∧ OwnF w' w.heap.size b c zs ∧ Below w.heap.size w w'
theorem cut_at (a : Option Addr) (k n : Nat) (h : k < n) : ∀ cap, n ≤ cap → (if cap = k then a else a.map (·.add k)) = a.map (·.add k) := by
  intro cap hc
  rw [if_neg (by omega)]

set_option linter.unusedVariables false in
set_option maxHeartbeats 1000000 in
theorem c_l02Row (g : Nat) (R C A : Nat) (a : Option Addr) (n cap : Nat) (zs : List Nat) (w : World) (h : IsFloats .f32 w a n cap zs) (hR : R ≤ 16) (hC0 : 1 ≤ C) (hC : C ≤ 16) (hA : A < R) (hn : n = R * C) (zr : List Nat) (hr : (zs.drop (A * C)).take C = zr)
    (h0 : w.cell? ⟨g, 0, none⟩ = some (.int .i64 R)) (h1 : w.cell? ⟨g, 1, none⟩ = some (.int .i64 C)) (h2 : w.cell? ⟨g, 2, none⟩ = some (.slice a n cap)) :
    Calls Try.prog 62 #[.pointer (some ⟨g, 0, none⟩), .int .i64 A] w (RetRow zr w) := by
  have e1 : (A + 1) * C ≤ R * C := Nat.mul_le_mul_right C hA
  have e2 : (A + 1) * C = A * C + C := by rw [Nat.add_mul, Nat.one_mul]
  have e3 : R * C ≤ 16 * 16 := Nat.mul_le_mul hR hC
  obtain ⟨b, off, rfl⟩ : ∃ b off, a = some ⟨b, off, none⟩ := by
    rcases h.2.2.2.2 with h' | ⟨b, off, rfl, _⟩
    · omega
    · exact ⟨b, off, rfl⟩
  obtain ⟨P, hP⟩ : ∃ P, A * C = P := ⟨_, rfl⟩
  have i1 : (A : Int) * (C : Int) = (P : Int) := by rw [← hP]; exact (Int.natCast_mul A C).symm
  have i2 : ((A : Int) + 1) * (C : Int) = (P : Int) + (C : Int) := by rw [Int.add_mul, i1, Int.one_mul]
  have hcap := h.1
  have hcm : cap ≤ 9223372036854775807 := by have := h.2.1; unfold maxLen at this; omega
  have HP := Lib.hid hP
  have HN := Lib.hid hn
  have hn1 : P + C ≤ n := by omega
  have hn2 : n ≤ 256 := by omega
  have HL := Lib.hid (show zs.length = n from h.2.2.1)
  obtain ⟨Q, hQ⟩ : ∃ Q, P + C = Q := ⟨_, rfl⟩
  have HQ := Lib.hid hQ
  have hf0 := h.part P Q (by omega) (by omega) (cap - P) (by omega) (by have := h.2.1; omega)
  have hzr : (zs.drop P).take (Q - P) = zr := by rw [← hr, hP, show Q - P = C by omega]
  rw [hzr] at hf0
  have HF := Lib.hid hf0
  clear hf0 hzr hr
  have hq4 : P ≤ Q := by omega
  have HG := Lib.hid (cell_block h1)
  have hq1 : (P : Int) < (Q : Int) := by omega
  have hq2 : (Q : Int) ≤ (n : Int) := by omega
  have hq3 : (Q : Int) ≤ (cap : Int) := by omega
  have hq0 : (0 : Int) ≤ (P : Int) := by omega
  have hne : ¬ cap = P := by omega
  have k1 : IntKind.i64.wrap ((A : Int) * (C : Int)) = (P : Int) := by rw [i1]; exact IntWalk.i64_in _ (by omega)
  have k2 : IntKind.i64.wrap ((A : Int) + 1) = (A : Int) + 1 := IntWalk.i64_in _ (by omega)
  have k3 : IntKind.i64.wrap (((A : Int) + 1) * (C : Int)) = (Q : Int) := by rw [i2]; exact (IntWalk.i64_in _ (by omega)).trans (by omega)
  clear h e1 e2 e3 hP hn i1 i2 hQ
  go_enter Try.func62, Try.ntmps62
  go_wp2_with fail
  go_region_held3 (fun w' => w'.cell? ⟨g, 1, none⟩ = some (.int .i64 C) ∧ w'.cell? ⟨g, 2, none⟩ = some (.slice (some ⟨b, off, none⟩) n cap)) (go_keep)
    (first
      | (go_at_call 101
         refine (c_l02Own _ _ _ _ _ (by have := HF.out.kept ((Below.refl w.heap.size w).drew); simpa [add_plain] using this) (by omega)).mono ?_
         rintro e w1 ⟨b', c', rfl, hf, hb⟩
         have HW := Lib.hid hf
         have HB := Lib.hid (show Below w.heap.size w w1 from ((Below.refl _ _).drew).trans hb)
         have q1 := (HB.out.cell (p := ⟨g, 1, none⟩) HG.out).trans h1
         have q2 := (HB.out.cell (p := ⟨g, 2, none⟩) HG.out).trans h2
         clear hf hb))
  go_wp2
  go_ret
  exact ⟨b', c', rfl, HW.out, HB.out⟩

set_option linter.unusedVariables false in
/-- of a row from bounds -/
theorem row_facts {R C A n cap : Nat} (hR : R ≤ 16) (hC0 : 1 ≤ C) (hC : C ≤ 16) (hA : A < R) (hn : n = R * C) : A * C + C ≤ n ∧ n ≤ 256 ∧ (A : Int) * (C : Int) = ((A * C : Nat) : Int) ∧ ((A : Int) + 1) * (C : Int) = ((A * C + C : Nat) : Int) := by
  have e1 : (A + 1) * C ≤ R * C := Nat.mul_le_mul_right C hA
  have e2 : (A + 1) * C = A * C + C := by rw [Nat.add_mul, Nat.one_mul]
  have e3 : R * C ≤ 16 * 16 := Nat.mul_le_mul hR hC
  refine ⟨by omega, by omega, (Int.natCast_mul A C).symm, ?_⟩
  rw [Int.add_mul, Int.one_mul, ← Int.natCast_mul]
  omega
set_option maxHeartbeats 1000000 in
theorem c_iRow (R C A : Nat) (a : Option Addr) (n cap : Nat) (zs : List Nat) (w : World) (h : IsFloats .f32 w a n cap zs) (hR : R ≤ 16) (hC0 : 1 ≤ C) (hC : C ≤ 16) (hA : A < R) (hn : n = R * C) (zr : List Nat) (hr : (zs.drop (A * C)).take C = zr) :
    Calls Try.prog 66 #[.agg #[.int .i64 R, .int .i64 C, .slice a n cap], .int .i64 A] w (RetRow zr w) := by
  obtain ⟨f1, f2, f3, f4⟩ := row_facts (cap := cap) hR hC0 hC hA hn
  obtain ⟨b, off, rfl⟩ : ∃ b off, a = some ⟨b, off, none⟩ := by
    rcases h.2.2.2.2 with h' | ⟨b, off, rfl, _⟩
    · omega
    · exact ⟨b, off, rfl⟩
  obtain ⟨P, hP⟩ : ∃ P, A * C = P := ⟨_, rfl⟩
  rw [hP] at f1 f3 f4
  have hcap := h.1
  have hcm : cap ≤ 9223372036854775807 := by have := h.2.1; unfold maxLen at this; omega
  obtain ⟨Q, hQ⟩ : ∃ Q, P + C = Q := ⟨_, rfl⟩
  have hf0 := h.part P Q (by omega) (by omega) (cap - P) (by omega) (by have := h.2.1; omega)
  have hzr : (zs.drop P).take (Q - P) = zr := by rw [← hr, hP, show Q - P = C by omega]
  rw [hzr] at hf0
  have HF := Lib.hid hf0
  have hq1 : (P : Int) < (Q : Int) := by omega
  have hq2 : (Q : Int) ≤ (n : Int) := by omega
  have hq3 : (Q : Int) ≤ (cap : Int) := by omega
  have hq0 : (0 : Int) ≤ (P : Int) := by omega
  have hne : ¬ cap = P := by omega
  have hq4 : P ≤ Q := by omega
  have k1 : IntKind.i64.wrap ((A : Int) * (C : Int)) = (P : Int) := by rw [f3]; exact IntWalk.i64_in _ (by omega)
  have k1' : (A : Int) * (C : Int) = (P : Int) := f3
  have k3 : (P : Int) + (C : Int) = (Q : Int) := by omega
  have k4 : P + C = Q := hQ
  clear h f1 f3 f4 hP hQ hf0 hzr hn hr
  go_enter Try.func66, Try.ntmps66
  go_wp2_with fail
  have HB0 := Lib.hid ((Below.refl w.heap.size w).alloc (Nat.le_refl _) (.cells #[.int .i64 R, .int .i64 C, .slice (some ⟨b, off, none⟩) n cap] 26))
  refine (c_copyOf _ _ _ zr _ (by have := HF.out.kept HB0.out; simpa [add_plain] using this) (by omega)).mono ?_
  rintro e w1 ⟨b', c', rfl, hf, hb⟩
  have HW := Lib.hid (hf.base HB0.out.size)
  have HB := Lib.hid (Below.next HB0.out hb)
  clear hf hb
  go_wp2_with fail
  go_ret
  exact ⟨b', c', rfl, HW.out, HB.out⟩
theorem vok_nat {r c : Int} {n : Nat} (h : vokB r c n = true) : ∃ R C : Nat, r = R ∧ c = C ∧ 1 ≤ R ∧ R ≤ 16 ∧ 1 ≤ C ∧ C ≤ 16 ∧ n = R * C := by
  obtain ⟨⟨h1, h2⟩, ⟨h3, h4⟩, h5⟩ := (vokB_iff r c n).1 h
  refine ⟨r.toNat, c.toNat, by omega, by omega, by omega, by omega, by omega, by omega, ?_⟩
  have e1 : r = (r.toNat : Int) := by omega
  have e2 : c = (c.toNat : Int) := by omega
  rw [e1, e2, ← Int.natCast_mul] at h5
  omega
theorem nil_own (w : World) (B : Nat) : OwnF w B none 0 [] := ⟨World.ownsRow_nil _ _ _ _, fun _ h => by cases h⟩

/-! RowOf -/
def vRowOf (r c : Int) (z : List Nat) (a : Int) : Bool × List Nat := if (vokB r c z.length && (decide (0 ≤ a) && decide (a ≤ r - 1))) = true then (true, ((z.drop (a.toNat * c.toNat)).take c.toNat).map (canon .f32)) else (false, [])
theorem vRowOf_len (r c : Int) (z : List Nat) (a : Int) : (vRowOf r c z a).2.length ≤ 1048576 := by
  unfold vRowOf
  split
  · rename_i h
    simp only [Bool.and_eq_true] at h
    obtain ⟨R, C, rfl, rfl, h1, h2, h3, h4, h5⟩ := vok_nat h.1
    simp; omega
  · simp
theorem vRowOf_no {r c : Int} {z : List Nat} {a : Int} (h : (vokB r c z.length && (decide (0 ≤ a) && decide (a ≤ r - 1))) = false) : vRowOf r c z a = (false, []) := by unfold vRowOf; rw [if_neg (by rw [h]; decide)]
theorem vRowOf_yes {R C A : Nat} {z zr : List Nat} (h : vokB R C z.length = true) (hA : A < R) (hz : (z.drop (A * C)).take C = zr) : vRowOf R C z A = (true, zr.map (canon .f32)) := by subst hz; unfold vRowOf; rw [if_pos (by rw [h]; simp; omega)]; simp
set_option maxHeartbeats 1000000 in
theorem t_iRowOf (r c : Int) (z : List Nat) (a : Int) (a0 : Option Addr) (w : World) (h0 : IsFloats .f32 w a0 z.length z.length z) :
    Calls Try.prog 40 #[.agg #[.int .i64 r, .int .i64 c, .slice a0 z.length z.length], .int .i64 a] w (RetL (vRowOf r c z a).1 (vRowOf r c z a).2 w) := by
  have K0 := Lib.hid (Blk.new w 26 #[.int .i64 r, .int .i64 c, .slice a0 z.length z.length])
  have B0 := Lib.hid ((Below.refl w.heap.size w).alloc (Nat.le_refl _) (.cells #[.int .i64 r, .int .i64 c, .slice a0 z.length z.length] 26))
  have HI := Lib.hid h0
  clear h0
  cases hv : vokB r c z.length with
  | false =>
    have HV := Lib.hid hv
    have HX := Lib.hid (vRowOf_no (a := a) (r := r) (c := c) (z := z) (by rw [hv]; rfl))
    clear hv
    rw [HX.out]
    go_enter Try.func40, Try.ntmps40
    go_wp2_with fail
    refine (c_iValid _ _ _ _ _ false HV.out _).mono ?_
    rintro e w1 ⟨rfl, hb⟩
    have B1 := Lib.hid (Below.next B0.out hb)
    clear hb
    go_wp2_with fail
    go_ret2
    exact ⟨none, 0, [], rfl, nil_own _ _, rfl, B1.out⟩
  | true =>
    obtain ⟨R, C, rfl, rfl, h1, h2, h3, h4, h5⟩ := vok_nat hv
    have H5 := Lib.hid h5
    clear h5
    have HV := Lib.hid hv
    by_cases ha : (0 : Int) ≤ a ∧ a < (R : Int)
    · obtain ⟨A, rfl⟩ := Int.eq_ofNat_of_zero_le ha.1
      have hA : A < R := by omega
      have hd : decide ((A : Int) < 0) = false := by simp
      have hd2 : decide ((R : Int) ≤ (A : Int)) = false := by simp; omega
      obtain ⟨zr, hz⟩ : ∃ zr, (z.drop (A * C)).take C = zr := ⟨_, rfl⟩
      have HZ := Lib.hid hz
      have HX := Lib.hid (vRowOf_yes hv hA hz)
      clear hz
      clear hv ha
      rw [HX.out]
      go_enter Try.func40, Try.ntmps40
      go_wp2_with fail
      refine (c_iValid _ _ _ _ _ true HV.out _).mono ?_
      rintro e w1 ⟨rfl, hb⟩
      have B1 := Lib.hid (Below.next B0.out hb)
      have K1 := Lib.hid (K0.out.below hb)
      clear hb
      obtain ⟨p0, p1, p2, p3⟩ := tb K1.out
      go_wp2_with fail
      clear p0 p1 p2 p3
      refine (c_iRow R C A _ _ _ z _ (HI.out.kept B1.out) h2 h3 h4 hA H5.out zr HZ.out).mono ?_
      rintro e w' ⟨b', c', rfl, hf, hb⟩
      have HW := Lib.hid (hf.base B1.out.size)
      have HB := Lib.hid (Below.next B1.out hb)
      clear hf hb
      go_wp2_with fail
      go_ret2
      exact ⟨b', c', _, rfl, HW.out, rfl, HB.out⟩
    · have HX := Lib.hid (vRowOf_no (a := a) (r := R) (c := C) (z := z) (by rw [hv, Bool.true_and, Bool.and_eq_false_iff]; simp only [decide_eq_false_iff_not]; omega))
      clear hv
      rw [HX.out]
      by_cases hn : a < 0
      · have hd : decide (a < 0) = true := decide_eq_true hn
        clear ha
        go_enter Try.func40, Try.ntmps40
        go_wp2_with fail
        refine (c_iValid _ _ _ _ _ true HV.out _).mono ?_
        rintro e w1 ⟨rfl, hb⟩
        have B1 := Lib.hid (Below.next B0.out hb)
        have K1 := Lib.hid (K0.out.below hb)
        clear hb
        obtain ⟨p0, p1, p2, p3⟩ := tb K1.out
        go_wp2_with fail
        go_ret2
        exact ⟨none, 0, [], rfl, nil_own _ _, rfl, B1.out⟩
      · have hd : decide (a < 0) = false := decide_eq_false hn
        have hd2 : decide ((R : Int) ≤ a) = true := decide_eq_true (by omega)
        clear ha
        go_enter Try.func40, Try.ntmps40
        go_wp2_with fail
        refine (c_iValid _ _ _ _ _ true HV.out _).mono ?_
        rintro e w1 ⟨rfl, hb⟩
        have B1 := Lib.hid (Below.next B0.out hb)
        have K1 := Lib.hid (K0.out.below hb)
        clear hb
        obtain ⟨p0, p1, p2, p3⟩ := tb K1.out
        go_wp2_with fail
        go_ret2
        exact ⟨none, 0, [], rfl, nil_own _ _, rfl, B1.out⟩
end Go.Proofs.Ytkfpaehalfjhhaa
