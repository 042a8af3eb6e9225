/-
  Shuffled rows: the exchanges of the model and of the program. Conditions: 1 to 16 rows and a seed.
-/
import Derived.Test.YthklfkfhhdglcaaSed
namespace Go.Proofs.Ythklfkfhhdglcaa
open Go.RowKit Go.Deep Go.WideShapes Go.ChangeShapes
set_option linter.unusedVariables false
attribute [local go_sem] World.drewN_zero

theorem upTo_fun (n : Nat) : (List.range n).map (fun i : Nat => (i : Int)) = upTo n := rfl
theorem wf_nat {n : Nat} (h : n ≤ 100000) : (Lit.int .i64 (n : Int)).wf = true := by
  simp [Lit.wf, IntKind.min, IntKind.max, IntKind.signed, IntKind.bits]; omega
theorem sh_first {n : Nat} {Z : List Int × Int} {B c : Nat} {a : Option Addr} {w wr : World} {s : Int} (h1 : 1 ≤ n) (hs : 0 ≤ s ∧ s ≤ 2147483647) (ho : OwnI wr B a c (upTo n)) (hz : shufL (n - 1) (upTo n) s = Z) (hl : Below w.heap.size w wr) : ShRel n Z B a c w (.int .i64 s) (.int .i64 ((n : Int) - 1)) wr := by
  refine ⟨n - 1, upTo n, s, ?_, rfl, by omega, upTo_length n, hs, ho, hz, hl⟩
  rw [show ((n - 1 : Nat) : Int) = (n : Int) - 1 by omega]
theorem swap_other (xs : List Int) (i j : Nat) : (xs.set j (xs.getD i 0)).set i (xs.getD j 0) = swapL xs i j := by
  unfold swapL
  by_cases h : i = j
  · subst h; simp
  · exact List.set_comm _ _ (fun e => h e.symm)
theorem own_swap2 {w : World} {B g c i j : Nat} {ys : List Int} (h : OwnI w B (some ⟨g, 0, none⟩) c ys) (hi : i < ys.length) (hj : j < ys.length) :
    OwnI ((w.setCell ⟨g, j, none⟩ (.int .i64 (ys.getD i 0))).setCell ⟨g, i, none⟩ (.int .i64 (ys.getD j 0))) B (some ⟨g, 0, none⟩) c (swapL ys i j) := by
  rw [← swap_other]
  exact ownI_set (k := i) (ownI_set h hj (getD_wf h hi)) (by rw [List.length_set]; exact hi) (getD_wf h hj)
theorem sh_next {n g c k : Nat} {Z : List Int × Int} {B : Nat} {w wr w2 : World} {xs : List Int} {s : Int} (hB : w.heap.size ≤ B) (hk : k + 1 + 1 ≤ n) (hx : xs.length = n) (ho : OwnI wr B (some ⟨g, 0, none⟩) c xs) (hz : shufL (k + 1) xs s = Z) (hl : Below w.heap.size w wr) (hw : Below wr.heap.size wr w2)
    (hs : 0 ≤ s ∧ s ≤ 2147483647) {j : Nat} (hj : j = pickJ (nextS s) (k + 1)) :
    ShRel n Z B (some ⟨g, 0, none⟩) c w (.int .i64 (nextS s)) (.int .i64 k) ((w2.setCell ⟨g, k + 1, none⟩ (.int .i64 (xs.getD j 0))).setCell ⟨g, j, none⟩ (.int .i64 (xs.getD (k + 1) 0))) := by
  have hjl := pickJ_lt (nextS s) (k + 1)
  have ho2 := ho.kept hw
  have hl2 : Below w.heap.size w w2 := hl.trans (hw.mono hl.size)
  have hg : w.heap.size ≤ g := Nat.le_trans hB (ho.lt g rfl).1
  refine ⟨k, swapL xs (k + 1) j, nextS s, rfl, rfl, by omega, by rw [swapL_length]; exact hx, nextS_rng s, own_swap ho2 (by omega) (by omega), ?_, (hl2.setCell (p := ⟨g, k + 1, none⟩) hg _).setCell (p := ⟨g, j, none⟩) hg _⟩
  rw [← hz, hj]
  rfl
theorem sh_next2 {n g c k : Nat} {Z : List Int × Int} {B : Nat} {w wr w2 : World} {xs : List Int} {s : Int} (hB : w.heap.size ≤ B) (hk : k + 1 + 1 ≤ n) (hx : xs.length = n) (ho : OwnI wr B (some ⟨g, 0, none⟩) c xs) (hz : shufL (k + 1) xs s = Z) (hl : Below w.heap.size w wr) (hw : Below wr.heap.size wr w2)
    (hs : 0 ≤ s ∧ s ≤ 2147483647) {j : Nat} (hj : j = pickJ (nextS s) (k + 1)) :
    ShRel n Z B (some ⟨g, 0, none⟩) c w (.int .i64 (nextS s)) (.int .i64 k) ((w2.setCell ⟨g, j, none⟩ (.int .i64 (xs.getD (k + 1) 0))).setCell ⟨g, k + 1, none⟩ (.int .i64 (xs.getD j 0))) := by
  have hjl := pickJ_lt (nextS s) (k + 1)
  have ho2 := ho.kept hw
  have hl2 : Below w.heap.size w w2 := hl.trans (hw.mono hl.size)
  have hg : w.heap.size ≤ g := Nat.le_trans hB (ho.lt g rfl).1
  refine ⟨k, swapL xs (k + 1) j, nextS s, rfl, rfl, by omega, by rw [swapL_length]; exact hx, nextS_rng s, own_swap2 ho2 (by omega) (by omega), ?_, (hl2.setCell (p := ⟨g, j, none⟩) hg _).setCell (p := ⟨g, k + 1, none⟩) hg _⟩
  rw [← hz, hj]
  rfl
set_option maxRecDepth 20000 in
set_option maxHeartbeats 2000000 in
theorem c_sShuf (n : Nat) (h1 : 1 ≤ n) (h2 : n ≤ 16) (s : Int) (hs : 0 ≤ s ∧ s ≤ 2147483647) (w : World) : Calls Try.prog 78 #[.int .i64 n, .int .i64 s] w (RetJ2 (shufR n s) w) := by
  have HS := Lib.hid hs
  have HZ := Lib.hid (show shufL (n - 1) (upTo n) s = shufR n s from rfl)
  obtain ⟨Z, hZ⟩ : ∃ Z, shufR n s = Z := ⟨_, rfl⟩
  rw [hZ] at HZ ⊢
  clear hZ hs
  obtain ⟨i0, hi, hz0, hz1, hz2⟩ := info_parts info_j64
  have JI := Lib.hid hi
  have HZ0 := Lib.hid hz0
  have HZ1 := Lib.hid hz1
  have HZ2 := Lib.hid hz2
  clear hi hz0 hz1 hz2
  go_enter Try.func78, Try.ntmps78
  go_wp2_with fail
  go_loopw [6, 7] (fun sv iv wr => GrowRelJ (fun i => (i : Int)) n w.heap.size w sv iv wr) (fun _ iv _ => n - (intOf iv).toNat)
  case atStart => exact growJ_first (Nat.le_refl _) rfl (Below.refl _ _) (Nat.le_refl _)
  case round =>
    obtain ⟨k, b, cp, ys, hk, rfl, rfl, hy, ho, he, hl⟩ := hrel
    have HO := Lib.hid ho
    have HY := Lib.hid hy
    have HE := Lib.hid he
    have HL := Lib.hid hl
    have hk0 : (0 : Int) ≤ (k : Int) := by omega
    clear hy ho he hl
    by_cases hlt : k < n
    · have hlt' : (k : Int) < (n : Int) := by omega
      have A1 := Lib.hid (show ys.length + 1 ≤ maxLen by rw [HY.out]; unfold maxLen; omega)
      have A2 := Lib.hid (show (ys.length + 1) * 8 ≤ 140737488355328 by rw [HY.out]; omega)
      have A3 := Lib.hid (show w.heap.size ≤ wr.heap.size from HL.out.size)
      have HW := Lib.hid (wf_nat (n := k) (by omega))
      go_wp2_with (at_builtin; refine wpList_append_any _ rfl (.tmp 17) (.tmp 19) 25 rfl w.heap.size 2 i0 (.int .i64 0) 1 8 Try.underlying25 JI.out HZ0.out HZ1.out HZ2.out rfl Nat.one_pos (.slice b ys.length cp) ys.length (ys.map toV) rfl (growJ_own HO.out) (wr.heap.size + 1) (some ⟨wr.heap.size, 0, none⟩) 1 1 [.int .i64 k] rfl growJ_reads (one_i64 _) A1.out A2.out (growJ_base A3.out) ?_; intro v' w' hown hgr hat; obtain ⟨a', c', rfl⟩ := ownsRow_slice hown; have HMD := Lib.hid (growJ_next (n := n) hlt HO.out (Nat.le_refl _) HL.out HE.out HY.out HW.out rfl hown hgr); clear hown hgr hat)
      go_roundw
      case rel => exact HMD.out
      case measure => simp [intOf]; omega
    · obtain rfl : k = n := by omega
      obtain ⟨g, rfl, hg1, hg2⟩ := ownI_some HO.out (by rw [HY.out]; omega)
      have HRW := Lib.hid (show OwnI wr w.heap.size (some ⟨g, 0, none⟩) cp (upTo k) by have := HO.out; rw [HE.out] at this; exact this)
      have hyl : ys.length = k := HY.out
      rw [hyl]
      have HST := Lib.hid (show ShRel k Z w.heap.size (some ⟨g, 0, none⟩) cp w (.int .i64 s) (.int .i64 ((k : Int) - 1)) wr from sh_first h1 HS.out HRW.out HZ.out HL.out)
      clear HO HE HRW HY hyl
      go_wp2_with fail
      go_loopw [1, 8] (fun sv iv wr => ShRel k Z w.heap.size (some ⟨g, 0, none⟩) cp w sv iv wr) (fun _ iv _ => (intOf iv).toNat)
      case atStart => exact HST.out
      case round =>
        obtain ⟨m, xs, s', rfl, rfl, hm, hx, hs', ho, hz, hl⟩ := hrel
        have HO := Lib.hid ho
        have HX := Lib.hid hx
        have HZ1 := Lib.hid hz
        have HL1 := Lib.hid hl
        have HS1 := Lib.hid hs'
        clear HST ho hx hz hl hs'
        cases m with
        | zero =>
          have HZ2 := Lib.hid (show (xs, s') = Z from HZ1.out)
          go_wp2_with fail
          go_ret2
          exact ⟨_, _, xs, by rw [HX.out, ← HZ2.out]; rfl, HO.out, by rw [← HZ2.out], HL1.out⟩
        | succ m =>
          have hr := nextS_rng s'
          obtain ⟨hr1, hr2⟩ := hr
          have hj := pickJ_lt (nextS s') (m + 1)
          have hjc := pickJ_cast hr1 (m + 1)
          have HNX := Lib.hid (fun (w2 : World) (hw : Below wr.heap.size wr w2) j hj => sh_next (w := w) (Z := Z) (Nat.le_refl _) hm HX.out HO.out HZ1.out HL1.out hw HS1.out (j := j) hj)
          have HNX2 := Lib.hid (fun (w2 : World) (hw : Below wr.heap.size wr w2) j hj => sh_next2 (w := w) (Z := Z) (Nat.le_refl _) hm HX.out HO.out HZ1.out HL1.out hw HS1.out (j := j) hj)
          obtain ⟨j, hjj⟩ : ∃ j, pickJ (nextS s') (m + 1) = j := ⟨_, rfl⟩
          have HJ := Lib.hid hjj
          rw [hjj] at hj hjc
          obtain ⟨q, hq⟩ : ∃ q, nextS s' = q := ⟨_, rfl⟩
          rw [hq] at hr1 hr2 hjc HNX HNX2 HJ
          have HQ := Lib.hid hq
          have HOW := HO.out.kept (Below.refl wr.heap.size wr)
          obtain ⟨c1, f1⟩ := ownI_cell HOW (show m + 1 < xs.length by rw [HX.out]; omega)
          obtain ⟨c2, f2⟩ := ownI_cell HOW (show j < xs.length by rw [HX.out]; omega)
          have hj0 : (0 : Int) ≤ (j : Int) := by omega
          have hjk : (j : Int) < (k : Int) := by omega
          have hmk : ((m + 1 : Nat) : Int) < (k : Int) := by omega
          have hjc' : q / 65536 % ((m : Int) + 1 + 1) = (j : Int) := by rw [hjc]; simp
          obtain ⟨x1, hx1⟩ : ∃ x, xs.getD (m + 1) 0 = x := ⟨_, rfl⟩
          obtain ⟨x2, hx2⟩ : ∃ x, xs.getD j 0 = x := ⟨_, rfl⟩
          have HX1 := Lib.hid hx1
          have HX2 := Lib.hid hx2
          rw [hx1] at c1
          rw [hx2] at c2
          have hwf := getD_wf HOW (show j < xs.length by rw [HX.out]; omega)
          rw [hx2] at hwf
          have e1 := ownI_set HOW (show m + 1 < xs.length by rw [HX.out]; omega) hwf
          obtain ⟨v1, e2⟩ := ownI_cell e1 (show j < (xs.set (m + 1) x2).length by rw [List.length_set, HX.out]; omega)
          obtain ⟨x3, hx3⟩ : ∃ x, (xs.set (m + 1) x2).getD j 0 = x := ⟨_, rfl⟩
          rw [hx3] at v1
          skip
          clear HOW hjj hq hx1 hx2 hjc hwf e1 hx3
          go_wp2_with (go_at_call 76; refine (c_sNext _ HS1.out _).mono ?_; rintro e w' ⟨rfl, rfl⟩; rw [HQ.out])
          go_roundw
          case rel => have := HNX.out _ (Below.refl _ _) j HJ.out.symm; rw [HX1.out, HX2.out] at this; exact this
          case measure => simp [intOf]
set_option maxRecDepth 20000 in
set_option maxHeartbeats 2000000 in
theorem c_iShuf (n : Nat) (h1 : 1 ≤ n) (h2 : n ≤ 16) (s : Int) (hs : 0 ≤ s ∧ s ≤ 2147483647) (w : World) : Calls Try.prog 62 #[.int .i64 n, .int .i64 s] w (RetJ2 (shufR n s) w) := by
  have HS := Lib.hid hs
  have HZ := Lib.hid (show shufL (n - 1) (upTo n) s = shufR n s from rfl)
  obtain ⟨Z, hZ⟩ : ∃ Z, shufR n s = Z := ⟨_, rfl⟩
  rw [hZ] at HZ ⊢
  clear hZ hs
  obtain ⟨i0, hi, hz0, hz1, hz2⟩ := info_parts info_j64
  have JI := Lib.hid hi
  have HZ0 := Lib.hid hz0
  have HZ1 := Lib.hid hz1
  have HZ2 := Lib.hid hz2
  clear hi hz0 hz1 hz2
  go_enter Try.func62, Try.ntmps62
  go_wp2_with (at_make; refine wpList_make_full _ rfl _ _ 25 rfl w.heap.size 2 i0 (.int .i64 0) 1 Try.underlying25 JI.out HZ0.out HZ1.out _ _ _ _ n rfl rfl rfl rfl ?c1 ?c2 ?c3 ?_)
  case c1 => rw [HZ2.out]; omega
  case c2 => unfold maxLen; omega
  case c3 => exact Nat.le_refl _
  intro w1 hown hgrow
  have hb1 : Below w.heap.size w w1 := (Below.refl _ _).grown hgrow (Nat.le_refl _) (fun k h => by cases h)
  rw [toList_madeCells_one] at hown
  have HO := Lib.hid hown
  have HB := Lib.hid hb1
  clear hown hb1 hgrow
  go_wp2_with fail
  go_loopw [14] (fun iv wr => FunRelJ (fun i => (i : Int)) n w.heap.size w iv wr) (fun iv _ => n - (intOf iv).toNat)
  case atStart => exact ⟨0, Nat.zero_le _, rfl, by simpa [partJ] using HO.out, HB.out⟩
  case round =>
    obtain ⟨k, hk, rfl, ho, hl⟩ := hrel
    have HO := Lib.hid ho
    have HL := Lib.hid hl
    have hk0 : (0 : Int) ≤ (k : Int) := by omega
    clear ho hl
    by_cases hlt : k < n
    · have hlt' : (k : Int) < (n : Int) := by omega
      obtain ⟨f1, v1, c1⟩ := funJ_cell hlt HO.out (Below.refl _ _)
      go_wp2_with fail
      go_roundw
      case rel => exact funJ_step (Nat.le_refl _) hlt HO.out HL.out (Below.refl _ _)
      case measure => simp [intOf]; omega
    · obtain rfl : k = n := by omega
      have HRW := Lib.hid (show OwnI wr w.heap.size (some ⟨w.heap.size, 0, none⟩) k (upTo k) from funJ_end (fun i hi => wf_nat (by omega)) HO.out)
      have HST := Lib.hid (show ShRel k Z w.heap.size (some ⟨w.heap.size, 0, none⟩) k w (.int .i64 s) (.int .i64 ((k : Int) - 1)) wr from sh_first h1 HS.out HRW.out HZ.out HL.out)
      clear HO HRW
      go_wp2_with fail
      go_loopw [1, 8] (fun sv iv wr => ShRel k Z w.heap.size (some ⟨w.heap.size, 0, none⟩) k w sv iv wr) (fun _ iv _ => (intOf iv).toNat)
      case atStart => exact HST.out
      case round =>
        obtain ⟨m, xs, s', rfl, rfl, hm, hx, hs', ho, hz, hl⟩ := hrel
        have HO := Lib.hid ho
        have HX := Lib.hid hx
        have HZ1 := Lib.hid hz
        have HL1 := Lib.hid hl
        have HS1 := Lib.hid hs'
        clear HST ho hx hz hl hs'
        cases m with
        | zero =>
          have HZ2 := Lib.hid (show (xs, s') = Z from HZ1.out)
          go_wp2_with fail
          go_ret2
          exact ⟨_, _, xs, by rw [HX.out, ← HZ2.out]; rfl, HO.out, by rw [← HZ2.out], HL1.out⟩
        | succ m =>
          have hr := nextS_rng s'
          obtain ⟨hr1, hr2⟩ := hr
          have hj := pickJ_lt (nextS s') (m + 1)
          have hjc := pickJ_cast hr1 (m + 1)
          have HNX := Lib.hid (fun (w2 : World) (hw : Below wr.heap.size wr w2) j hj => sh_next (w := w) (Z := Z) (Nat.le_refl _) hm HX.out HO.out HZ1.out HL1.out hw HS1.out (j := j) hj)
          have HNX2 := Lib.hid (fun (w2 : World) (hw : Below wr.heap.size wr w2) j hj => sh_next2 (w := w) (Z := Z) (Nat.le_refl _) hm HX.out HO.out HZ1.out HL1.out hw HS1.out (j := j) hj)
          obtain ⟨j, hjj⟩ : ∃ j, pickJ (nextS s') (m + 1) = j := ⟨_, rfl⟩
          have HJ := Lib.hid hjj
          rw [hjj] at hj hjc
          obtain ⟨q, hq⟩ : ∃ q, nextS s' = q := ⟨_, rfl⟩
          rw [hq] at hr1 hr2 hjc HNX HNX2 HJ
          have HQ := Lib.hid hq
          have HOW := HO.out.kept (Below.refl wr.heap.size wr)
          obtain ⟨c1, f1⟩ := ownI_cell HOW (show m + 1 < xs.length by rw [HX.out]; omega)
          obtain ⟨c2, f2⟩ := ownI_cell HOW (show j < xs.length by rw [HX.out]; omega)
          have hj0 : (0 : Int) ≤ (j : Int) := by omega
          have hjk : (j : Int) < (k : Int) := by omega
          have hmk : ((m + 1 : Nat) : Int) < (k : Int) := by omega
          have hjc' : q / 65536 % ((m : Int) + 1 + 1) = (j : Int) := by rw [hjc]; simp
          obtain ⟨x1, hx1⟩ : ∃ x, xs.getD (m + 1) 0 = x := ⟨_, rfl⟩
          obtain ⟨x2, hx2⟩ : ∃ x, xs.getD j 0 = x := ⟨_, rfl⟩
          have HX1 := Lib.hid hx1
          have HX2 := Lib.hid hx2
          rw [hx1] at c1
          rw [hx2] at c2
          have hwf := getD_wf HOW (show j < xs.length by rw [HX.out]; omega)
          rw [hx2] at hwf
          have e1 := ownI_set HOW (show m + 1 < xs.length by rw [HX.out]; omega) hwf
          obtain ⟨v1, e2⟩ := ownI_cell e1 (show j < (xs.set (m + 1) x2).length by rw [List.length_set, HX.out]; omega)
          obtain ⟨x3, hx3⟩ : ∃ x, (xs.set (m + 1) x2).getD j 0 = x := ⟨_, rfl⟩
          rw [hx3] at v1
          have e4 := ownI_set HOW (show j < xs.length by rw [HX.out]; omega) (by have := getD_wf HOW (show m + 1 < xs.length by rw [HX.out]; omega); rw [hx1] at this; exact this)
          clear HOW hjj hq hx1 hx2 hjc hwf e1 hx3
          go_wp2_with (go_at_call 63; refine (c_iNext _ HS1.out _).mono ?_; rintro e w' ⟨rfl, rfl⟩; rw [HQ.out])
          obtain ⟨v2, e3⟩ := ownI_cell e4 (show m + 1 < (xs.set j x1).length by rw [List.length_set, HX.out]; omega)
          obtain ⟨x4, hx4⟩ : ∃ x, (xs.set j x1).getD (m + 1) 0 = x := ⟨_, rfl⟩
          rw [hx4] at v2
          clear hx4 e4
          go_region
          all_goals go_wp2_with fail
          all_goals go_roundw
          case rel => have h1 := HNX.out _ (Below.refl wr.heap.size wr).drew j HJ.out.symm; rw [HX1.out, HX2.out] at h1; exact h1
          all_goals simp [intOf]
end Go.Proofs.Ythklfkfhhdglcaa
