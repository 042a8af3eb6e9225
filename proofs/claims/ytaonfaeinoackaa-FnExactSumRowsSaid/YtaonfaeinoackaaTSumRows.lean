/-
  What SumRows returns, as the model and as the program make it. Conditions: the numbers can be read.
-/
import Derived.Test.YtaonfaeinoackaaTake
import Derived.BigRegion
namespace Go.Proofs.Ytaonfaeinoackaa
open Go.RowKit Go.Deep Go.WideShapes Go.ChangeShapes

def colK (z : List Nat) (C k j : Nat) : List Nat := ((List.range k).filter (fun i => i % C == j)).map fun i => z.getD i 0
theorem colK_hit (z : List Nat) (C k j : Nat) (h : k % C = j) : colK z C (k + 1) j = colK z C k j ++ [z.getD k 0] := by
  unfold colK; rw [List.range_succ, List.filter_append, List.map_append]; simp [h]
theorem colK_miss (z : List Nat) (C k j : Nat) (h : k % C ≠ j) : colK z C (k + 1) j = colK z C k j := by
  unfold colK; rw [List.range_succ, List.filter_append, List.map_append]; simp [h]
theorem filter_one (C j : Nat) (h : j < C) : (List.range C).filter (fun i => i == j) = [j] := by
  induction C with
  | zero => omega
  | succ n ih =>
    rw [List.range_succ, List.filter_append]
    by_cases e : j = n
    · subst e
      have : (List.range j).filter (fun i => i == j) = [] := by
        rw [List.filter_eq_nil_iff]; intro x hx; have := List.mem_range.1 hx; simp; omega
      rw [this]; simp
    · rw [ih (by omega)]
      simp [Ne.symm e]
theorem colK_all (z : List Nat) (R C j : Nat) (h : j < C) : colK z C (R * C) j = colL z R C j := by
  induction R with
  | zero => simp [colK, colL]
  | succ n ih =>
    rw [colL_succ, ← ih, Nat.add_mul, Nat.one_mul]
    unfold colK
    rw [List.range_add, List.filter_append, List.map_append]
    congr 1
    rw [List.filter_map]
    have e : ((fun i => i % C == j) ∘ fun x => n * C + x) = fun x => (n * C + x) % C == j := rfl
    have e2 : (List.range C).filter ((fun i => i % C == j) ∘ fun x => n * C + x) = [j] := by
      rw [← filter_one C j h]
      refine List.filter_congr fun x hx => ?_
      have hx := List.mem_range.1 hx
      show ((n * C + x) % C == j) = (x == j)
      rw [Nat.mul_comm, Nat.mul_add_mod, Nat.mod_eq_of_lt hx]
    rw [e2]
    simp
theorem csum_snoc' (zs : List Nat) (v r : Nat) (w : World) (hr : canon .f32 r = csum zs) : canon .f32 (fval .add .f32 r v w) = csum (zs ++ [v]) := by
  rw [canon_fval, hr]; unfold csum; rw [List.foldl_append]; rfl
def SumRowRel (z : List Nat) (C n gd : Nat) (w : World) (i : Value) (wr : World) : Prop :=
  ∃ (k : Nat) (ys : List Nat), k ≤ n ∧ i = .int .i64 k ∧ ys.length = C ∧ wr.ownsRow w.heap.size 23 1 (.slice (some ⟨gd, 0, none⟩) C C) C (ys.map (Value.float .f32)) ∧ (∀ y ∈ ys, y < 2 ^ 32) ∧ (∀ j, j < C → canon .f32 (ys.getD j 0) = csum (colK z C k j)) ∧ Below w.heap.size w wr
theorem sumrow_next {z ys : List Nat} {C k q v : Nat} (hy : ys.length = C) (hq : k % C = q) (hC : 1 ≤ C) (hs : ∀ j, j < C → canon .f32 (ys.getD j 0) = csum (colK z C k j)) (hv : canon .f32 v = csum (colK z C k q ++ [z.getD k 0])) :
    ∀ j, j < C → canon .f32 ((ys.set q v).getD j 0) = csum (colK z C (k + 1) j) := by
  intro j hj
  have hqC : q < C := by rw [← hq]; exact Nat.mod_lt _ (by omega)
  by_cases e : q = j
  · subst e
    rw [colK_hit z C k q hq, ← hv]
    simp [List.getD, hy, hqC]
  · rw [colK_miss z C k j (by rw [hq]; exact e), ← hs j hj]
    simp [List.getD, e]
set_option maxHeartbeats 2000000 in
theorem c_l02SumRows (g : Nat) (C : Nat) (a : Option Addr) (n cap : Nat) (zs : List Nat) (w : World) (h : IsFloats .f32 w a n cap zs) (hn : n ≤ 256) (hC : 1 ≤ C) (hC' : C ≤ 16)
    (h1 : w.cell? ⟨g, 1, none⟩ = some (.int .i64 C)) (h2 : w.cell? ⟨g, 2, none⟩ = some (.slice a n cap)) :
    Calls Try.prog 77 #[.pointer (some ⟨g, 0, none⟩)] w
      fun e w' => ∃ b c ys, e = .returned (.slice b ys.length c) ∧ OwnF w' w.heap.size b c ys ∧ ys.map (canon .f32) = ((List.range C).map fun k => csum (colK zs C n k)) ∧ Below w.heap.size w w' := by
  have hg : g < w.heap.size := cell_block h1
  have HF := Lib.hid h
  have H1 := Lib.hid h1
  have H2 := Lib.hid h2
  obtain ⟨i0, hi, hz0, hz1, hz2⟩ := info_parts info_f32
  have HI := Lib.hid hi
  have HZ0 := Lib.hid hz0
  have HZ1 := Lib.hid hz1
  have HZ2 := Lib.hid hz2
  clear h hi hz0 hz1 hz2
  go_enter Try.func77, Try.ntmps77
  go_wp2_with (at_make; refine wpList_make_full _ rfl _ _ 22 rfl w.heap.size 23 i0 (.float .f32 0) 1 Try.underlying22 HI.out HZ0.out HZ1.out _ _ _ _ C rfl rfl rfl rfl ?c1 ?c2 ?c3 ?_)
  case c1 => rw [HZ2.out]; omega
  case c2 => unfold maxLen; omega
  case c3 => exact Nat.le_refl _
  intro w1 hown hgrow
  have hb1 := (Below.refl w.heap.size w).grown hgrow (Nat.le_refl _) (fun k h => by cases h)
  rw [toList_madeCells_one] at hown
  have HO := Lib.hid hown
  have HB := Lib.hid hb1
  have p2 : w1.cell? ⟨g, 2, none⟩ = some (.slice a n cap) := (hb1.cell (p := ⟨g, 2, none⟩) hg).trans H2.out
  clear hown hgrow hb1 h1 h2
  go_wp2_with fail
  clear p2
  go_loopw [4] (fun i wr => SumRowRel zs C n w.heap.size w i wr) (fun i _ => n - (intOf i).toNat)
  case atStart => exact ⟨0, List.replicate C 0, Nat.zero_le _, rfl, by simp, by simpa using HO.out, (fun y hy => by rw [List.eq_of_mem_replicate hy]; decide), (fun j hj => by simp [List.getD, hj, colK, canon_zero, csum]), HB.out⟩
  case round =>
    obtain ⟨k, ys, hk, rfl, hy, ho, ht, hs, hbl⟩ := hrel
    have HY := Lib.hid hy
    have HO' := Lib.hid ho
    have HT := Lib.hid ht
    have HS := Lib.hid hs
    have HL := Lib.hid hbl
    have hk0 : (0 : Int) ≤ (k : Int) := by omega
    have p1 : wr.cell? ⟨g, 1, none⟩ = some (.int .i64 C) := (hbl.cell (p := ⟨g, 1, none⟩) hg).trans H1.out
    have p2 : wr.cell? ⟨g, 2, none⟩ = some (.slice a n cap) := (hbl.cell (p := ⟨g, 2, none⟩) hg).trans H2.out
    clear hy ho ht hs hbl
    by_cases hlt : k < n
    · have hlt' : (k : Int) < (n : Int) := by omega
      rcases HF.out.2.2.2.2 with h' | ⟨ab, off, rfl, hab, hcell⟩
      · omega
      obtain ⟨q, hq⟩ : ∃ q, k % C = q := ⟨_, rfl⟩
      have HQ := Lib.hid hq
      have hqC : q < C := by rw [← hq]; exact Nat.mod_lt _ (by omega)
      clear hq
      have hx : wr.cell? ⟨ab, off + k, none⟩ = some (.float .f32 (zs.getD k 0)) := (HL.out.cell (p := ⟨ab, off + k, none⟩) hab).trans (hcell k hlt)
      have hxo : wr.cell? ⟨w.heap.size, q, none⟩ = some (.float .f32 (ys.getD q 0)) := by
        rw [HO'.out.cellAt q (by omega)]
        have := HY.out
        simp [List.getD, show q < ys.length by omega]
      have hfz : wr.frozen? ⟨w.heap.size, q, none⟩ = false := HO'.out.frozenAt q
      obtain ⟨y, hz⟩ : ∃ z, zs.getD k 0 = z := ⟨_, rfl⟩
      rw [hz] at hx
      have HZ := Lib.hid hz
      obtain ⟨s, hs⟩ : ∃ z, ys.getD q 0 = z := ⟨_, rfl⟩
      rw [hs] at hxo
      have HSS := Lib.hid hs
      have j6 : ((k : Int).tmod (C : Int)) = (q : Int) := by rw [Int.tmod_eq_emod_of_nonneg (by omega), ← HQ.out]; exact (Int.natCast_emod k C).symm
      have j7 : ¬ C = 0 := by omega
      have j8 : (q : Int) < (C : Int) := by omega
      have j9 : (0 : Int) ≤ (q : Int) := by omega
      clear hcell hz hs
      go_wp2_with fail
      go_region
      all_goals
        go_wp2_with fail
        go_roundw
        case rel =>
          have ho' : (wr.drewN (1 + fdr .add .f32 s y)).ownsRow w.heap.size 23 1 (.slice (some ⟨w.heap.size, 0, none⟩) C C) C (ys.map (Value.float .f32)) := HO'.out
          obtain ⟨o1, o2⟩ := ho'.stored q (.float .f32 (fval .add .f32 s y wr.drew))
          rw [← List.map_set] at o1
          refine ⟨k + 1, ys.set q (fval .add .f32 s y wr.drew), by omega, by go_num, by rw [List.length_set]; exact HY.out, o1, ?_, sumrow_next HY.out HQ.out hC HS.out (by rw [HZ.out]; exact csum_snoc' _ _ _ _ (by rw [← HSS.out]; exact HS.out q hqC)), (below_drewN HL.out _).setCell (Nat.le_refl _) _⟩
          intro x hx'
          rcases List.mem_or_eq_of_mem_set hx' with h | h
          · exact HT.out x h
          · rw [h]; exact fval_lt .add .f32 s y wr.drew
        case measure => simp [intOf]; omega
    · obtain rfl : k = n := by omega
      go_wp2_with fail
      go_ret
      refine ⟨some ⟨w.heap.size, 0, none⟩, C, ys, by rw [HY.out]; rfl, ⟨by rw [HY.out]; exact HO'.out, HT.out⟩, ?_, HL.out⟩
      apply List.ext_getElem
      · simp [HY.out]
      · intro j h1 h2
        have hj : j < C := by simpa using h2
        have := HS.out j hj
        have hj' : j < ys.length := by rw [HY.out]; exact hj
        simpa [List.getD, hj'] using this
def vSumRows (r c : Int) (z : List Nat) : Bool × List Nat := if vokB r c z.length = true then (true, (List.range c.toNat).map fun k => csum (colL z r.toNat c.toNat k)) else (false, [])
theorem vSumRows_len (r c : Int) (z : List Nat) : (vSumRows r c z).2.length ≤ 1048576 := by
  unfold vSumRows
  split
  · rename_i h
    obtain ⟨R, C, rfl, rfl, h1, h2, h3, h4, h5⟩ := vok_nat h
    simp; omega
  · simp
theorem vSumRows_yes {R C : Nat} {z : List Nat} (h : vokB R C z.length = true) : vSumRows R C z = (true, (List.range C).map fun k => csum (colL z R C k)) := by unfold vSumRows; rw [if_pos h]; simp
theorem sums_same {R C : Nat} (z : List Nat) : ((List.range C).map fun k => csum (colK z C (R * C) k)) = (List.range C).map fun k => csum (colL z R C k) :=
  List.map_congr_left fun k hk => by rw [colK_all z R C k (List.mem_range.1 hk)]
set_option maxHeartbeats 1000000 in
theorem t_sSumRows (r c : Int) (z : List Nat) (a0 : Option Addr) (w : World) (h0 : IsFloats .f32 w a0 z.length z.length z) :
    Calls Try.prog 44 #[.agg #[.int .i64 r, .int .i64 c, .slice a0 z.length z.length]] w (RetL (vSumRows r c z).1 (vSumRows r c z).2 w) := by
  have hn : z.length ≤ 9223372036854775807 := by have := h0.2.1; unfold maxLen at this; exact this
  have HI := Lib.hid h0
  clear h0
  cases hv : vokB r c z.length with
  | false =>
    have HV := Lib.hid hv
    have HX := Lib.hid (show vSumRows r c z = (false, []) by unfold vSumRows; rw [if_neg (by rw [hv]; decide)])
    clear hv
    rw [HX.out]
    go_enter Try.func44, Try.ntmps44
    go_wp2_with fail
    have B_0 := Lib.hid (Below.refl w.heap.size w)
    have bl := (Below.refl (w).heap.size (w)).alloc (Nat.le_refl _) (.cells #[.int .i64 r, .int .i64 c, .slice a0 z.length z.length] 36)
    have hn := Blk.new (w) 36 #[.int .i64 r, .int .i64 c, .slice a0 z.length z.length]
    have B_1 := Lib.hid (Below.next B_0.out bl)
    clear bl B_0
    have K_1 := Lib.hid hn
    clear hn
    generalize (w).alloc (.cells #[.int .i64 r, .int .i64 c, .slice a0 z.length z.length] 36) = w1 at B_1 K_1 ⊢
    obtain ⟨pK0, pK1, pK2, pK3⟩ := tb K_1.out
    refine (c_l02Is w.heap.size 0 r c a0 z.length z.length false HV.out hn _ pK0 pK1 pK2).mono ?_
    rintro e w2 ⟨rfl, dn⟩
    have bl := dn.below
    clear dn
    have B_2 := Lib.hid (Below.next B_1.out bl)
    have K_2 := Lib.hid (K_1.out.below bl)
    clear bl B_1 K_1
    clear pK0 pK1 pK2 pK3
    obtain ⟨pK0, pK1, pK2, pK3⟩ := tb K_2.out
    go_wp2_with fail
    go_ret2
    exact ⟨none, 0, [], rfl, nil_own _ _, rfl, B_2.out⟩
  | true =>
    obtain ⟨R, C, rfl, rfl, h1, h2, h3, h4, h5⟩ := vok_nat hv
    have H5 := Lib.hid h5
    clear h5
    have h256 := (vok256 hv).1
    have HV := Lib.hid hv
    have HX := Lib.hid (vSumRows_yes hv)
    clear hv
    rw [HX.out]
    go_enter Try.func44, Try.ntmps44
    go_wp2_with fail
    have B_0 := Lib.hid (Below.refl w.heap.size w)
    have bl := (Below.refl (w).heap.size (w)).alloc (Nat.le_refl _) (.cells #[.int .i64 (R : Int), .int .i64 (C : Int), .slice a0 z.length z.length] 36)
    have hn := Blk.new (w) 36 #[.int .i64 (R : Int), .int .i64 (C : Int), .slice a0 z.length z.length]
    have B_1 := Lib.hid (Below.next B_0.out bl)
    clear bl B_0
    have K_1 := Lib.hid hn
    clear hn
    generalize (w).alloc (.cells #[.int .i64 (R : Int), .int .i64 (C : Int), .slice a0 z.length z.length] 36) = w1 at B_1 K_1 ⊢
    obtain ⟨pK0, pK1, pK2, pK3⟩ := tb K_1.out
    refine (c_l02Is w.heap.size 0 (R : Int) (C : Int) a0 z.length z.length true HV.out hn _ pK0 pK1 pK2).mono ?_
    rintro e w2 ⟨rfl, dn⟩
    have bl := dn.below
    clear dn
    have B_2 := Lib.hid (Below.next B_1.out bl)
    have K_2 := Lib.hid (K_1.out.below bl)
    clear bl B_1 K_1
    clear pK0 pK1 pK2 pK3
    obtain ⟨pK0, pK1, pK2, pK3⟩ := tb K_2.out
    go_wp2_with fail
    clear pK0 pK1 pK2 pK3
    obtain ⟨pK0, pK1, pK2, pK3⟩ := tb K_2.out
    refine (c_l02SumRows w.heap.size C a0 z.length z.length z _ (HI.out.kept B_2.out) h256 h3 h4 pK1 pK2).mono ?_
    clear pK0 pK1 pK2 pK3
    rintro e w3 ⟨b, cc, ys, rfl, hf, hy, bl⟩
    have HW := Lib.hid (hf.base B_2.out.size)
    have HYS := Lib.hid (show ys.map (canon .f32) = (List.range C).map fun k => csum (colL z R C k) from hy.trans (by rw [H5.out]; exact sums_same z))
    clear hf hy
    have B_3 := Lib.hid (Below.next B_2.out bl)
    have K_3 := Lib.hid (K_2.out.below bl)
    clear bl B_2 K_2
    obtain ⟨pK0, pK1, pK2, pK3⟩ := tb K_3.out
    go_wp2_with fail
    go_ret2
    exact ⟨b, cc, ys, rfl, HW.out, HYS.out, B_3.out⟩
set_option maxHeartbeats 1000000 in
theorem t_iSumRows (r c : Int) (z : List Nat) (a0 : Option Addr) (w : World) (h0 : IsFloats .f32 w a0 z.length z.length z) :
    Calls Try.prog 45 #[.agg #[.int .i64 r, .int .i64 c, .slice a0 z.length z.length]] w (RetL (vSumRows r c z).1 (vSumRows r c z).2 w) := by
  have hn : z.length ≤ 9223372036854775807 := by have := h0.2.1; unfold maxLen at this; exact this
  have HI := Lib.hid h0
  clear h0
  cases hv : vokB r c z.length with
  | false =>
    have HV := Lib.hid hv
    have HX := Lib.hid (show vSumRows r c z = (false, []) by unfold vSumRows; rw [if_neg (by rw [hv]; decide)])
    clear hv
    rw [HX.out]
    go_enter Try.func45, Try.ntmps45
    go_wp2_with fail
    have B_0 := Lib.hid (Below.refl w.heap.size w)
    have bl := (Below.refl (w).heap.size (w)).alloc (Nat.le_refl _) (.cells #[.int .i64 r, .int .i64 c, .slice a0 z.length z.length] 36)
    have hn := Blk.new (w) 36 #[.int .i64 r, .int .i64 c, .slice a0 z.length z.length]
    have B_1 := Lib.hid (Below.next B_0.out bl)
    clear bl B_0
    have K_1 := Lib.hid hn
    clear hn
    generalize (w).alloc (.cells #[.int .i64 r, .int .i64 c, .slice a0 z.length z.length] 36) = w1 at B_1 K_1 ⊢
    refine (c_iValid r c _ _ _ false HV.out _).mono ?_
    rintro e w2 ⟨rfl, bl⟩
    have B_2 := Lib.hid (Below.next B_1.out bl)
    have K_2 := Lib.hid (K_1.out.below bl)
    clear bl B_1 K_1
    obtain ⟨pK0, pK1, pK2, pK3⟩ := tb K_2.out
    go_wp2_with fail
    go_ret2
    exact ⟨none, 0, [], rfl, nil_own _ _, rfl, B_2.out⟩
  | true =>
    obtain ⟨R, C, rfl, rfl, h1, h2, h3, h4, h5⟩ := vok_nat hv
    have H5 := Lib.hid h5
    clear h5
    have h256 := (vok256 hv).1
    have HV := Lib.hid hv
    have HX := Lib.hid (vSumRows_yes hv)
    clear hv
    rw [HX.out]
    go_enter Try.func45, Try.ntmps45
    go_wp2_with fail
    have B_0 := Lib.hid (Below.refl w.heap.size w)
    have bl := (Below.refl (w).heap.size (w)).alloc (Nat.le_refl _) (.cells #[.int .i64 (R : Int), .int .i64 (C : Int), .slice a0 z.length z.length] 36)
    have hn := Blk.new (w) 36 #[.int .i64 (R : Int), .int .i64 (C : Int), .slice a0 z.length z.length]
    have B_1 := Lib.hid (Below.next B_0.out bl)
    clear bl B_0
    have K_1 := Lib.hid hn
    clear hn
    generalize (w).alloc (.cells #[.int .i64 (R : Int), .int .i64 (C : Int), .slice a0 z.length z.length] 36) = w1 at B_1 K_1 ⊢
    refine (c_iValid (R : Int) (C : Int) _ _ _ true HV.out _).mono ?_
    rintro e w2 ⟨rfl, bl⟩
    have B_2 := Lib.hid (Below.next B_1.out bl)
    have K_2 := Lib.hid (K_1.out.below bl)
    clear bl B_1 K_1
    obtain ⟨pK0, pK1, pK2, pK3⟩ := tb K_2.out
    go_wp2_with fail
    clear pK0 pK1 pK2 pK3
    refine (c_takeColSum R C a0 z.length z.length z _ (HI.out.kept B_2.out) h1 h2 h4 H5.out).mono ?_
    rintro e w3 ⟨b, cc, ys, rfl, hf, hy, bl⟩
    have HW := Lib.hid (hf.base B_2.out.size)
    have HYS := Lib.hid (show ys.map (canon .f32) = (List.range C).map fun k => csum (colL z R C k) from hy)
    clear hf hy
    have B_3 := Lib.hid (Below.next B_2.out bl)
    have K_3 := Lib.hid (K_2.out.below bl)
    clear bl B_2 K_2
    obtain ⟨pK0, pK1, pK2, pK3⟩ := tb K_3.out
    go_wp2_with fail
    go_ret2
    exact ⟨b, cc, ys, rfl, HW.out, HYS.out, B_3.out⟩
end Go.Proofs.Ytaonfaeinoackaa
