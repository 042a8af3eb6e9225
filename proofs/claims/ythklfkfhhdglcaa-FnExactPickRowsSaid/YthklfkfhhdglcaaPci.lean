/-
  Some rows of a tensor and of examples: the program. Conditions: the tensors are valid and have the rows.
-/
import Derived.Test.YthklfkfhhdglcaaPck
namespace Go.Proofs.Ythklfkfhhdglcaa
open Go.RowKit Go.Deep Go.WideShapes Go.ChangeShapes
set_option linter.unusedVariables false
attribute [local go_sem] World.drewN_zero

def PkK (R C : Nat) (a : Option Addr) (n cap : Nat) (w wr : World) : Prop := Blk wr w.heap.size 49 #[.int .i64 R, .int .i64 C, .slice a n cap] ∧ Blk wr (w.heap.size + 1) 49 #[.int .i64 0, .int .i64 0, .slice none 0 0]
set_option maxRecDepth 20000 in
set_option maxHeartbeats 4000000 in
theorem c_iPick (R C : Nat) (a : Option Addr) (n cap : Nat) (zs : List Nat) (rows : List Int) (ra : Option Addr) (rc : Nat) (w : World) (h : IsFloats .f32 w a n cap zs) (hR : R ≤ 16) (hC0 : 1 ≤ C) (hC : C ≤ 16) (hn : n = R * C)
    (hr : IsRow .i64 w ra rows.length rc rows) (hall : ∀ y ∈ rows, 0 ≤ y ∧ y < R) (h16 : rows.length ≤ 16) :
    Calls Try.prog 137 #[.agg #[.int .i64 R, .int .i64 C, .slice a n cap], .slice ra rows.length rc] w (RetRows rows.length C (rowsF C zs rows) w) := by
  obtain ⟨i0, hi, hz0, hz1, hz2⟩ := info_parts info_f32
  have HI := Lib.hid hi
  have HZ0 := Lib.hid hz0
  have HZ1 := Lib.hid hz1
  have HZ2 := Lib.hid hz2
  have HF := Lib.hid h
  have HRW := Lib.hid hr
  have HALL := Lib.hid hall
  have HNN := Lib.hid hn
  have hm : rows.length ≤ 9223372036854775807 := by omega
  obtain ⟨L, hL⟩ : ∃ L, rows.length = L := ⟨_, rfl⟩
  have HL := Lib.hid hL
  have b0 := (((Below.refl w.heap.size w).alloc (Nat.le_refl _) (.cells #[.int .i64 R, .int .i64 C, .slice a n cap] 49)).alloc (by simp) (.cells #[.int .i64 0, .int .i64 0, .slice none 0 0] 49)).alloc (by simp; omega) (.cells #[.int .i64 rows.length, .int .i64 C, .slice none 0 0] 49)
  have k2 := Blk.new ((w.alloc (.cells #[.int .i64 R, .int .i64 C, .slice a n cap] 49)).alloc (.cells #[.int .i64 0, .int .i64 0, .slice none 0 0] 49)) 49 #[.int .i64 rows.length, .int .i64 C, .slice none 0 0]
  have k1 := (Blk.new (w.alloc (.cells #[.int .i64 R, .int .i64 C, .slice a n cap] 49)) 49 #[.int .i64 0, .int .i64 0, .slice none 0 0]).below ((Below.refl _ _).alloc (Nat.le_refl _) (.cells #[.int .i64 rows.length, .int .i64 C, .slice none 0 0] 49))
  have k0 := ((Blk.new w 49 #[.int .i64 R, .int .i64 C, .slice a n cap]).below ((Below.refl _ _).alloc (Nat.le_refl _) (.cells #[.int .i64 0, .int .i64 0, .slice none 0 0] 49))).below ((Below.refl _ _).alloc (Nat.le_refl _) (.cells #[.int .i64 rows.length, .int .i64 C, .slice none 0 0] 49))
  simp only [World.size_alloc] at k1 k2
  have HST := Lib.hid (show PkRel C zs rows (w.heap.size + 3) (PkK R C a n cap w) w (.int .i64 0) (((w.alloc (.cells #[.int .i64 R, .int .i64 C, .slice a n cap] 49)).alloc (.cells #[.int .i64 0, .int .i64 0, .slice none 0 0] 49)).alloc (.cells #[.int .i64 rows.length, .int .i64 C, .slice none 0 0] 49)) from
    ⟨0, none, 0, Nat.zero_le _, rfl, k2, ⟨k0, k1⟩, nil_own _ _, (by intro x hx; simp [blk] at hx), b0⟩)
  clear b0 k2 k1 k0 h hr hall hi hz0 hz1 hz2 hn
  rw [hL] at HST HRW hm h16 ⊢
  clear hL
  go_enter Try.func137, Try.ntmps137
  go_wp2_with fail
  go_loopw [15] (fun iv wr => PkRel C zs rows (w.heap.size + 3) (PkK R C a n cap w) w iv wr) (fun iv _ => L - (intOf iv).toNat)
  case atStart => exact HST.out
  case round =>
    obtain ⟨j, rb, cp, hj, rfl, hk2, ⟨hk0, hk1⟩, ho, hne, hb⟩ := hrel
    have K2 := Lib.hid hk2
    have K1 := Lib.hid hk1
    have K0 := Lib.hid hk0
    have HO := Lib.hid ho
    have HNE := Lib.hid hne
    have HB := Lib.hid hb
    have hbd : (rowsF C zs (rows.take j)).length ≤ 256 := Nat.le_trans rowsF_length (Nat.le_trans (Nat.mul_le_mul (show (rows.take j).length ≤ 16 by rw [List.length_take, HL.out]; omega) hC) (by decide))
    obtain ⟨DJ, hDJ⟩ : ∃ D, rowsF C zs (rows.take j) = D := ⟨_, rfl⟩
    have HDJ := Lib.hid hDJ
    rw [HL.out] at hj K2
    rw [hDJ] at K2 HO hbd
    have hj0 : (0 : Int) ≤ (j : Int) := by omega
    clear HST hk2 hk1 hk0 ho hne hb hDJ
    by_cases hlt : j < L
    · have hlt' : (j : Int) < (L : Int) := by omega
      rcases HRW.out.2.2.2.2 with h' | ⟨rb0, ro, rfl, hrb, hrc⟩
      · omega
      have cr := (HB.out.cell (p := ⟨rb0, ro + j, none⟩) hrb).trans (hrc j hlt)
      have hy := HALL.out (rows.getD j 0) (by simp [List.getD, show j < rows.length by rw [HL.out]; exact hlt])
      have HTK := Lib.hid (take_one' (show j < rows.length by rw [HL.out]; exact hlt))
      obtain ⟨y, hyy⟩ : ∃ y, rows.getD j 0 = y := ⟨_, rfl⟩
      rw [hyy] at cr hy HTK
      obtain ⟨A, rfl⟩ := Int.eq_ofNat_of_zero_le hy.1
      have hA : A < R := by omega
      have HRS := Lib.hid (rowsF_snoc C zs (rows.take j) (A : Int))
      rw [← HTK.out, HDJ.out, Int.toNat_natCast] at HRS
      obtain ⟨zr, hzr⟩ : ∃ zr, (zs.drop (A * C)).take C = zr := ⟨_, rfl⟩
      rw [hzr] at HRS
      have HZR := Lib.hid hzr
      have hzl : zr.length ≤ 16 := by rw [← hzr, List.length_take]; omega
      have A1 := Lib.hid (show DJ.length + zr.length ≤ 512 by omega)
      have bd : Below wr.heap.size wr wr.drew := (Below.refl _ _).drew
      have K2' := Lib.hid (K2.out.below bd)
      have K1' := Lib.hid (K1.out.below bd)
      have K0' := Lib.hid (K0.out.below bd)
      have HO2 := Lib.hid (HO.out.kept bd)
      have HB2 := Lib.hid (HB.out.trans (bd.mono HB.out.size))
      obtain ⟨s0, s1, s2, sl⟩ := tb K2.out
      obtain ⟨e0, e1, e2⟩ := tbf K2.out
      obtain ⟨q0, q1, q2, ql⟩ := tb K0.out
      clear hyy hy hzr hrc bd hzl
      go_wp2_with fail
      go_region_law (first
        | (refine step_append_any _ rfl (.tmp 20) (.tmp 23) 32 rfl (w.heap.size + 3) 37 i0 (.float .f32 0) 1 4 Try.underlying32 HI.out HZ0.out HZ1.out HZ2.out rfl Nat.one_pos (.slice rb DJ.length cp) DJ.length (DJ.map (Value.float .f32)) rfl HO3.out.1 _ zb zr.length zc _ rfl HZF.out.reads (ones_f32 _) A2.out A3.out HSZ.out ?_
           intro v' w5 hown hgr hat
           obtain ⟨a', c', rfl⟩ := ownsRow_slice hown
           have HNX := Lib.hid (pk_st_next HO3.out HZF.out.2.2.2.1 hown hgr (by omega) HB3.out)
           have K25 := Lib.hid (pk_st_blk' K23.out hgr HNE.out)
           have K15 := Lib.hid (pk_st_blk K13.out HO3.out hgr (by omega))
           have K05 := Lib.hid (pk_st_blk K03.out HO3.out hgr (by omega))
           have HNE5 := Lib.hid (pk_st_ne hat HNE.out K23.out.lt)
           clear hown hgr hat
           obtain ⟨s0, s1, s2, sl⟩ := tb K25.out
           obtain ⟨e0, e1, e2⟩ := tbf K25.out)
        | (go_simp
           go_at_call 164
           refine (c_iRow R C A a n cap zs _ (HF.out.kept HB2.out) hR hC0 hC hA HNN.out zr HZR.out).mono ?_
           rintro e w3 ⟨zb, zc, rfl, hf, hb⟩
           have K23 := Lib.hid (K2'.out.below hb)
           have K13 := Lib.hid (K1'.out.below hb)
           have K03 := Lib.hid (K0'.out.below hb)
           have HO3 := Lib.hid (HO2.out.kept hb)
           have HB3 := Lib.hid (Below.next HB2.out hb)
           have HZF := Lib.hid hf.isFloats
           have HSZ := Lib.hid (show w.heap.size + 3 ≤ w3.heap.size from (K2'.out.below hb).lt)
           have A2 := Lib.hid (show DJ.length + zr.length ≤ maxLen by have := A1.out; unfold maxLen; omega)
           have A3 := Lib.hid (show (DJ.length + zr.length) * 4 ≤ 140737488355328 by have := A1.out; omega)
           obtain ⟨s0, s1, s2, sl⟩ := tb K23.out
           obtain ⟨e0, e1, e2⟩ := tbf K23.out
           clear hf hb))
      all_goals
        go_wp2_with fail
        clear s0 s1 s2 sl e0 e1 e2
        go_roundw
        case rel =>
          have hk := pk_blk_set (i := 2) K25.out (.slice a' (DJ.length + zr.length) c')
          simp only [List.setIfInBounds_toArray, List.set_cons_zero, List.set_cons_succ] at hk
          refine ⟨j + 1, a', c', by rw [HL.out]; omega, by go_num, ?_, ⟨pk_blk_far (i := 2) K05.out (by omega) _, pk_blk_far (i := 2) K15.out (by omega) _⟩, ?_, HNE5.out, HNX.out.2.setCell (p := ⟨w.heap.size + 1 + 1, 2, none⟩) (by simp; omega) _⟩
          · rw [HRS.out, List.length_append, HL.out]; exact hk
          · rw [HRS.out]; exact pk_st_far' (i := 2) HNX.out.1 HNE5.out _
        case measure => simp [intOf]; omega
    · obtain rfl : j = L := by omega
      have HDD := Lib.hid (show rowsF C zs rows = DJ by rw [← HDJ.out, List.take_of_length_le (by rw [HL.out]; exact Nat.le_refl _)])
      obtain ⟨s0, s1, s2, sl⟩ := tb K2.out
      obtain ⟨r0, r1, r2, rl⟩ := tb K1.out
      obtain ⟨e0, e1, e2⟩ := tbf K1.out
      obtain ⟨hk, hgw⟩ := store3 K1.out (x' := .int .i64 j) (y' := .int .i64 C) (z' := .slice rb DJ.length cp)
      obtain ⟨m0, m1, m2, ml⟩ := tb hk
      have HE1 := Lib.hid (HO.out.apart (b := some ⟨w.heap.size + 1, 0, none⟩) hgw (fun x h1 h2 => by have := (HO.out.lt x h1).1; simp [blk] at h2; omega))
      have HE2 := Lib.hid (Below.at_ HB.out hgw (by omega))
      clear hk hgw
      go_wp2_with fail
      refine bodyPost_ret (v := .agg #[.int .i64 j, .int .i64 C, .slice rb DJ.length cp]) (by simp [results, Try.results137, go_sem, m0, m1, m2]) rfl ?_
      rw [HDD.out]
      exact ⟨rb, cp, rfl, HE1.out.base (by omega), HE2.out⟩
end Go.Proofs.Ythklfkfhhdglcaa
