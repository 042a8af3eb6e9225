/-
  Joining two models: the program. Conditions: the cells can be read.
-/
import Derived.Test.YtkpcjjnaocdelaaMjn
namespace Go.Proofs.Ytkpcjjnaocdelaa
open Go.RowKit Go.Deep Go.WideShapes Go.ChangeShapes Go.Maps
set_option linter.unusedVariables false
set_option linter.unusedSimpArgs false
attribute [local go_sem] World.drewN_zero

set_option maxRecDepth 20000 in
set_option maxHeartbeats 1000000 in
theorem c_growL (n : Nat) (w : World) (h1 : 1 ≤ n) (hn : n ≤ 4096) :
    Calls Try.prog 132 #[.slice none 0 0, .int .i64 n] w fun e w' => ∃ b c, e = .returned (.slice b 0 c) ∧ w'.ownsRow w.heap.size 59 5 (.slice b 0 c) 0 [] ∧ Below w.heap.size w w' := by
  obtain ⟨i0, hi, hz0, hz1, hz2⟩ := info_parts info_lay
  have g1 : ¬ ((n : Int) < 0) := by omega
  have g2 : (n : Int) > 0 := by omega
  have hrz : ∀ ty, (Builtin.append_ #[39, 3] ty #[.slice none 0 0, .int .i64 (n : Int)]).run Try.prog w =
      .ok (.slice (some ⟨w.heap.size, 0, none⟩) n (grownCap w n 0 59)) (w.drew.alloc (.cells (#[] ++ Builtin.zeroCells (Value.cells (.agg #[.int .i64 0, .int .i64 0, .int .i64 0, .slice none 0 0, .slice none 0 0])) n ++ Builtin.zeroCells (Value.cells (.agg #[.int .i64 0, .int .i64 0, .int .i64 0, .slice none 0 0, .slice none 0 0])) (grownCap w n 0 59 - n)) 59)) := fun ty => by
    have h := Lib.run_append_grow_zeros w 39 3 ty 59 i0 (.agg #[.int .i64 0, .int .i64 0, .int .i64 0, .slice none 0 0, .slice none 0 0]) .i64 .i64 Try.underlying39 Try.underlying3 hi hz0 none 0 0 [] (run_firstCells_none w.drew i0.size 0 0 0) n (by omega) (by rw [hz1]; decide) (by omega) (by omega)
      (by rw [hz2]; omega) (by rw [hz2, Nat.zero_add]; exact growslice_fits (by omega) (by omega))
    rw [Nat.zero_add] at h
    exact h
  have hGn : n ≤ grownCap w n 0 59 := grownCap_ge w _ _ _
  obtain ⟨G, hG⟩ : ∃ G, grownCap w n 0 59 = G := ⟨_, rfl⟩
  have hG63 : G ≤ maxLen := by rw [← hG]; exact grownCap_le_maxLen w n 0 _ (by unfold maxLen; omega)
  rw [hG] at hrz hGn
  have hGm : G ≤ 9223372036854775807 := by unfold maxLen at hG63; omega
  have HGM := Lib.hid hG63
  obtain ⟨cs, hcs⟩ : ∃ cs, (#[] ++ Builtin.zeroCells (Value.cells (.agg #[.int .i64 0, .int .i64 0, .int .i64 0, .slice none 0 0, .slice none 0 0])) n ++ Builtin.zeroCells (Value.cells (.agg #[.int .i64 0, .int .i64 0, .int .i64 0, .slice none 0 0, .slice none 0 0])) (G - n)) = cs := ⟨_, rfl⟩
  have hsz : cs.size = G * 5 := by rw [← hcs]; simp [Builtin.zeroCells, Value.cells]; omega
  rw [hcs] at hrz
  have HSZ := Lib.hid hsz
  clear hG hcs hsz hG63 hi hz0 hz1 hz2
  go_enter Try.func132, Try.ntmps132
  go_wp2_with (at_builtin; refine Lib.wpList_append_run _ rfl _ _ _ _ rfl _ _ rfl rfl _ _ (hrz _) ?_)
  go_ret
  refine ⟨some ⟨w.heap.size, 0, none⟩, G, rfl, ⟨rfl, .inr ⟨w.heap.size, G, cs, rfl, Nat.le_refl _, ?_, Nat.zero_le _, HGM.out, by rw [HSZ.out], by simp⟩⟩, ((Below.refl _ _).drew).alloc (Nat.le_refl _) _⟩
  exact heap_alloc_new _ _
def two (xs ys : List LayA) (j : Nat) : List LayA := if j = 0 then [] else if j = 1 then xs else xs ++ ys
def Cat2Rel (xs ys : List LayA) (w : World) (s i : Value) (wr : World) : Prop :=
  ∃ (j : Nat) (b : Option Addr) (cp : Nat), j ≤ 2 ∧ i = .int .i64 j ∧ s = .slice b (two xs ys j).length cp ∧ wr.ownsRow w.heap.size 59 5 (.slice b (two xs ys j).length cp) (two xs ys j).length (vs (laysC (two xs ys j))) ∧ Below w.heap.size w wr
set_option maxRecDepth 20000 in
set_option maxHeartbeats 4000000 in
theorem c_concatL (b0 : Nat) (g g' : Option Addr) (n m c c' : Nat) (xs ys : List LayA) (w : World) (q0 : w.cell? ⟨b0, 0, none⟩ = some (.slice g n c)) (q1 : w.cell? ⟨b0, 1, none⟩ = some (.slice g' m c')) (hb0 : b0 < w.heap.size)
    (h : LaysAt w g n c xs) (h' : LaysAt w g' m c' ys) (hn1 : 1 ≤ n) (hn : n ≤ 6) (hm : m ≤ 6) :
    Calls Try.prog 97 #[.slice (some ⟨b0, 0, none⟩) 2 2] w fun e w' => ∃ b cp, e = .returned (.slice b (n + m) cp) ∧ LaysAt w' b (n + m) cp (xs ++ ys) ∧ Below w.heap.size w w' := by
  obtain ⟨i0, hi, hz0, hz1, hz2⟩ := info_parts info_lay
  have HI := Lib.hid hi
  have HZ0 := Lib.hid hz0
  have HZ1 := Lib.hid hz1
  have HZ2 := Lib.hid hz2
  have H := Lib.hid h
  have H' := Lib.hid h'
  have HX := Lib.hid h.1
  have HY := Lib.hid h'.1
  have Q0 := Lib.hid q0
  have Q1 := Lib.hid q1
  have HB0 := Lib.hid hb0
  have A3 := Lib.hid (show n + m ≤ maxLen by unfold maxLen; omega)
  have A4 := Lib.hid (show (n + m) * 72 ≤ 140737488355328 by omega)
  clear h h' hi hz0 hz1 hz2 hb0
  go_enter Try.func97, Try.ntmps97
  go_wp2_with fail
  go_loop [3, 11] (fun s i => ∃ k : Nat, k ≤ 2 ∧ i = .int .i64 k ∧ s = .int .i64 ((if k = 0 then 0 else if k = 1 then n else n + m : Nat) : Int)) (fun _ i => 2 - (intOf i).toNat)
  case atStart => exact ⟨0, Nat.zero_le _, rfl, rfl⟩
  case round =>
    obtain ⟨k, hk, rfl, rfl⟩ := hrel
    have hk' : k = 0 ∨ k = 1 ∨ k = 2 := by omega
    clear hk
    rcases hk' with rfl | rfl | rfl
    · simp only [if_true]
      have g1 : ¬ ((0 : Int) + (n : Int) < 0) := by omega
      go_wp2_with fail
      go_round
      case rel => exact ⟨1, by omega, by go_num, by simp⟩
      case measure => simp [intOf]
    · simp only [if_true, if_false, Nat.one_ne_zero]
      have g1 : ¬ ((n : Int) + (m : Int) < 0) := by omega
      go_wp2_with fail
      go_round
      case rel => exact ⟨2, by omega, by go_num, by simp⟩
      case measure => simp [intOf]
    · simp only [if_false, show ¬ (2 : Nat) = 0 by decide, show ¬ (2 : Nat) = 1 by decide]
      obtain ⟨N, hN⟩ : ∃ N, n + m = N := ⟨_, rfl⟩
      have HN := Lib.hid hN
      rw [hN] at A3 A4 ⊢
      have hN1 : 1 ≤ N := by omega
      have hN2 : N ≤ 4096 := by omega
      clear hN
      go_wp2_with fail
      refine (c_growL N _ hN1 hN2).mono ?_
      rintro e w1 ⟨b, cp, rfl, ho, hb⟩
      have HO := Lib.hid ho
      have HB := Lib.hid hb
      clear ho hb q0 q1
      go_wp2_with fail
      go_loopw [6, 27] (fun s i wr => Cat2Rel xs ys w s i wr) (fun _ i _ => 2 - (intOf i).toNat)
      case atStart => exact ⟨0, b, cp, Nat.zero_le _, rfl, by simp [two], by simpa [two, laysC, vs] using HO.out, HB.out⟩
      case round =>
        obtain ⟨j, b, cp, hj, rfl, rfl, ho, hbl⟩ := hrel
        have HB2 := Lib.hid hbl
        have hj' : j = 0 ∨ j = 1 ∨ j = 2 := by omega
        have q0 := (hbl.cell (p := ⟨b0, 0, none⟩) HB0.out).trans Q0.out
        have q1 := (hbl.cell (p := ⟨b0, 1, none⟩) HB0.out).trans Q1.out
        have HR := Lib.hid ((H.out.kept hbl).reads)
        have HR' := Lib.hid ((H'.out.kept hbl).reads)
        clear hj hbl
        rcases hj' with rfl | rfl | rfl
        · have h0 : two xs ys 0 = [] := rfl
          rw [h0] at ho ⊢
          simp only [List.length_nil, laysC, List.flatMap_nil, vs, List.map_nil] at ho ⊢
          have HO2 := Lib.hid ho
          clear ho h0
          go_wp2_with (at_builtin; refine wpList_append_any _ rfl (.tmp 31) (.tmp 32) _ rfl w.heap.size 59 i0 _ 5 72 Try.underlying39 HI.out HZ0.out HZ1.out HZ2.out rfl (by omega) (.slice b 0 cp) 0 _ rfl HO2.out _ g n c _ rfl HR.out (ones_lays _) ?c1 ?c2 HB2.out.size ?_)
          case c1 => unfold maxLen; omega
          case c2 => omega
          intro v' w5 hown hgr hat
          obtain ⟨a', c1', rfl⟩ := ownsRow_slice hown
          have O5 := Lib.hid hown
          have B5 := Lib.hid (HB2.out.grown hgr HB2.out.size (fun k hk => by rw [ownBlock_slice] at hk; exact (ownsRow_lt HO2.out k (by rw [hk]; simp)).1))
          clear hown hgr hat q0 q1
          go_wp2_with fail
          go_roundw
          case rel => exact ⟨1, a', c1', by omega, by go_num, by simp [two, HX.out], by simpa [two, HX.out] using O5.out, B5.out⟩
          case measure => simp [intOf]
        · have h0 : two xs ys 1 = xs := rfl
          rw [h0, HX.out] at ho ⊢
          have HO2 := Lib.hid ho
          clear ho h0
          go_wp2_with (at_builtin; refine wpList_append_any _ rfl (.tmp 31) (.tmp 32) _ rfl w.heap.size 59 i0 _ 5 72 Try.underlying39 HI.out HZ0.out HZ1.out HZ2.out rfl (by omega) (.slice b n cp) n _ rfl HO2.out _ g' m c' _ rfl HR'.out (ones_lays _) ?c1 ?c2 HB2.out.size ?_)
          case c1 => unfold maxLen; omega
          case c2 => omega
          intro v' w5 hown hgr hat
          obtain ⟨a', c1', rfl⟩ := ownsRow_slice hown
          have O5 := Lib.hid hown
          have B5 := Lib.hid (HB2.out.grown hgr HB2.out.size (fun k hk => by rw [ownBlock_slice] at hk; exact (ownsRow_lt HO2.out k (by rw [hk]; simp)).1))
          clear hown hgr hat q0 q1
          go_wp2_with fail
          go_roundw
          case rel => exact ⟨2, a', c1', by omega, by go_num, by simp [two, HX.out, HY.out], by simpa [two, HX.out, HY.out, laysC_append, vs_append] using O5.out, B5.out⟩
          case measure => simp [intOf]
        · have h0 : two xs ys 2 = xs ++ ys := rfl
          rw [h0, List.length_append, HX.out, HY.out, laysC_append, vs_append] at ho
          rw [h0, List.length_append, HX.out, HY.out]
          have HO2 := Lib.hid ho
          clear ho h0
          go_wp2_with fail
          go_ret
          refine ⟨b, cp, by rw [HN.out]; rfl, ?_, HB2.out⟩
          exact lays_row (H.out.kept HB2.out) (H'.out.kept HB2.out) HO2.out (by rw [HN.out]; exact A3.out)
set_option maxRecDepth 20000 in
set_option maxHeartbeats 4000000 in
theorem t_iJoinModels (ps : List LayP) (n : Nat) (g : Option Addr) (c : Nat) (y : List LayA) (qs : List LayP) (m : Nat) (g' : Option Addr) (c' : Nat) (z : List LayA) (w : World) (hp : y.map LayA.p = ps) (h : LaysAt w g n c y) (hp' : z.map LayA.p = qs) (h' : LaysAt w g' m c' z) :
    Calls Try.prog 49 #[.agg #[.slice g n c], .agg #[.slice g' m c']] w (RetM (vJoinModels ps qs).1 (vJoinModels ps qs).2 w) := by
  subst hp hp'
  obtain ⟨k1, k2, k3, bb⟩ := three_boxes w 41 #[.slice g n c] #[.slice g' m c'] #[.slice none 0 0]
  have K1 := Lib.hid k1
  have K2 := Lib.hid k2
  have K3 := Lib.hid k3
  have B := Lib.hid bb
  have H := Lib.hid (h.kept bb)
  have H' := Lib.hid (h'.kept bb)
  cases hv : vMod (y.map LayA.p) with
  | false =>
    have HV := Lib.hid hv
    rw [show vJoinModels (y.map LayA.p) (z.map LayA.p) = (false, []) by simp [vJoinModels, hv]]
    clear k1 k2 k3 bb h h' hv
    go_enter Try.func49, Try.ntmps49
    go_wp2_with fail
    generalize ((w.alloc (.cells #[.slice g n c] 41)).alloc (.cells #[.slice g' m c'] 41)).alloc (.cells #[.slice none 0 0] 41) = w1 at K1 K2 K3 B H H' ⊢
    refine (c_iValidModel g c n y false HV.out w1 H.out).mono ?_
    rintro e w2 ⟨rfl, bl⟩
    have B2 := Lib.hid (Below.next B.out bl)
    have K32 := Lib.hid (K3.out.below bl)
    clear bl
    obtain ⟨t0, tl⟩ := tb1 K32.out
    have f1 := K32.out.frozen 0
    go_wp2_with fail
    refine bodyPost_ret (v := .tuple #[.agg #[.slice none 0 0], .bool false]) (by simp [results, Try.results49, go_sem, t0]) rfl (retM_no ?_)
    exact B2.out.setCell (p := ⟨w.heap.size + 1 + 1, 0, none⟩) (by simp; omega) _
  | true =>
    have HV := Lib.hid hv
    have V1 := Lib.hid (vMod_parts hv)
    cases hv' : vMod (z.map LayA.p) with
    | false =>
      have HV' := Lib.hid hv'
      rw [show vJoinModels (y.map LayA.p) (z.map LayA.p) = (false, []) by simp [vJoinModels, hv']]
      clear k1 k2 k3 bb h h' hv hv'
      go_enter Try.func49, Try.ntmps49
      go_wp2_with fail
      generalize ((w.alloc (.cells #[.slice g n c] 41)).alloc (.cells #[.slice g' m c'] 41)).alloc (.cells #[.slice none 0 0] 41) = w1 at K1 K2 K3 B H H' ⊢
      refine (c_iValidModel g c n y true HV.out w1 H.out).mono ?_
      rintro e w2 ⟨rfl, bl⟩
      have B2 := Lib.hid (Below.next B.out bl)
      have K22 := Lib.hid (K2.out.below bl)
      have K32 := Lib.hid (K3.out.below bl)
      have H2' := Lib.hid (H'.out.kept bl)
      clear bl
      obtain ⟨p0, pl⟩ := tb1 K22.out
      go_wp2_with fail
      refine (c_iValidModel g' c' m z false HV'.out w2 H2'.out).mono ?_
      rintro e w3 ⟨rfl, bl⟩
      have B3 := Lib.hid (Below.next B2.out bl)
      have K33 := Lib.hid (K32.out.below bl)
      clear bl p0 pl
      obtain ⟨t0, tl⟩ := tb1 K33.out
      have f1 := K33.out.frozen 0
      go_wp2_with fail
      refine bodyPost_ret (v := .tuple #[.agg #[.slice none 0 0], .bool false]) (by simp [results, Try.results49, go_sem, t0]) rfl (retM_no ?_)
      exact B3.out.setCell (p := ⟨w.heap.size + 1 + 1, 0, none⟩) (by simp; omega) _
    | true =>
      have HV' := Lib.hid hv'
      have V2 := Lib.hid (vMod_parts hv')
      have hn : n ≤ 6 := by rw [← h.1]; simpa using V1.out.2.1
      have hm : m ≤ 6 := by rw [← h'.1]; simpa using V2.out.2.1
      have hn1 : 1 ≤ n := by rw [← h.1]; simpa using V1.out.1
      have HAP := Lib.hid (show (y ++ z).map LayA.p = y.map LayA.p ++ z.map LayA.p from List.map_append)
      clear k1 k2 k3 bb h h' hv hv'
      go_enter Try.func49, Try.ntmps49
      go_wp2_with fail
      generalize ((w.alloc (.cells #[.slice g n c] 41)).alloc (.cells #[.slice g' m c'] 41)).alloc (.cells #[.slice none 0 0] 41) = w1 at K1 K2 K3 B H H' ⊢
      refine (c_iValidModel g c n y true HV.out w1 H.out).mono ?_
      rintro e w2 ⟨rfl, bl⟩
      have B2 := Lib.hid (Below.next B.out bl)
      have K12 := Lib.hid (K1.out.below bl)
      have K22 := Lib.hid (K2.out.below bl)
      have K32 := Lib.hid (K3.out.below bl)
      have H2 := Lib.hid (H.out.kept bl)
      have H2' := Lib.hid (H'.out.kept bl)
      clear bl
      obtain ⟨p0, pl⟩ := tb1 K22.out
      go_wp2_with fail
      refine (c_iValidModel g' c' m z true HV'.out w2 H2'.out).mono ?_
      rintro e w3 ⟨rfl, bl⟩
      have B3 := Lib.hid (Below.next B2.out bl)
      have K13 := Lib.hid (K12.out.below bl)
      have K23 := Lib.hid (K22.out.below bl)
      have K33 := Lib.hid (K32.out.below bl)
      have H3 := Lib.hid (H2.out.kept bl)
      have H3' := Lib.hid (H2'.out.kept bl)
      clear bl p0 pl
      obtain ⟨r0, rl⟩ := tb1 K13.out
      obtain ⟨s0, sl⟩ := tb1 K23.out
      go_wp2_with fail
      have al := (Below.refl w3.heap.size w3).alloc (Nat.le_refl _) (.cells #[.slice g n c, .slice g' m c'] 39)
      have KL := Lib.hid (Blk.new w3 39 #[.slice g n c, .slice g' m c'])
      have B4 := Lib.hid (Below.next B3.out al)
      have K34 := Lib.hid (K33.out.below al)
      have H4 := Lib.hid (H3.out.kept al)
      have H4' := Lib.hid (H3'.out.kept al)
      clear al r0 rl s0 sl
      generalize w3.alloc (.cells #[.slice g n c, .slice g' m c'] 39) = w4 at KL B4 K34 H4 H4' ⊢
      refine (c_concatL w3.heap.size g g' n m c c' y z w4 (KL.out.cell 0) (KL.out.cell 1) KL.out.lt H4.out H4'.out hn1 hn hm).mono ?_
      rintro e w5 ⟨a2, c2, rfl, hl, bl⟩
      have H5 := Lib.hid hl
      have B5 := Lib.hid (Below.next B4.out bl)
      have K35 := Lib.hid (K34.out.below bl)
      clear hl bl
      go_wp2_with fail
      have al := (Below.refl w5.heap.size w5).alloc (Nat.le_refl _) (.cells #[.slice a2 (n + m) c2] 41)
      have KM := Lib.hid (Blk.new w5 41 #[.slice a2 (n + m) c2])
      have B6 := Lib.hid (Below.next B5.out al)
      have K36 := Lib.hid (K35.out.below al)
      have H6 := Lib.hid (H5.out.kept al)
      clear al
      generalize w5.alloc (.cells #[.slice a2 (n + m) c2] 41) = w6 at KM B6 K36 H6 ⊢
      cases hvv : vMod ((y ++ z).map LayA.p) with
      | false =>
        have HVV := Lib.hid hvv
        clear hvv
        refine (c_iValidModel a2 c2 (n + m) (y ++ z) false HVV.out w6 H6.out).mono ?_
        rintro e w7 ⟨rfl, bl⟩
        have B7 := Lib.hid (Below.next B6.out bl)
        have K37 := Lib.hid (K36.out.below bl)
        clear bl
        obtain ⟨t0, tl⟩ := tb1 K37.out
        have f1 := K37.out.frozen 0
        go_wp2_with fail
        refine bodyPost_ret (v := .tuple #[.agg #[.slice none 0 0], .bool false]) (by simp [results, Try.results49, go_sem, t0]) rfl ?_
        rw [show vJoinModels (y.map LayA.p) (z.map LayA.p) = (false, []) by unfold vJoinModels; rw [← HAP.out, HVV.out]; simp]
        exact retM_no (B7.out.setCell (p := ⟨w.heap.size + 1 + 1, 0, none⟩) (by simp; omega) _)
      | true =>
        have HVV := Lib.hid hvv
        clear hvv
        refine (c_iValidModel a2 c2 (n + m) (y ++ z) true HVV.out w6 H6.out).mono ?_
        rintro e w7 ⟨rfl, bl⟩
        have B7 := Lib.hid (Below.next B6.out bl)
        have K37 := Lib.hid (K36.out.below bl)
        have KM7 := Lib.hid (KM.out.below bl)
        have H7 := Lib.hid (H6.out.kept bl)
        clear bl
        obtain ⟨p0, pl⟩ := tb1 KM7.out
        go_wp2_with fail
        refine (c_copiedM a2 c2 (n + m) (y ++ z) w7 H7.out HVV.out).mono ?_
        rintro e w8 ⟨gs, cp, ys, rfl, ho, hnd, hyp, bl⟩
        have S7 := Lib.hid (show w.heap.size + 1 + 1 < w7.heap.size from K37.out.lt)
        have K38 := Lib.hid (K37.out.below bl)
        have B8 := Lib.hid (Below.next B7.out bl)
        have HYP := Lib.hid hyp
        have O8 := Lib.hid ho
        have ND := Lib.hid hnd
        clear bl hyp ho hnd p0 pl
        obtain ⟨t0, tl⟩ := tb1 K38.out
        have f1 := K38.out.frozen 0
        go_wp2_with fail
        refine bodyPost_ret (v := .tuple #[.agg #[.slice gs ys.length cp], .bool true]) (by simp [results, Try.results49, go_sem, t0]) rfl ?_
        rw [show vJoinModels (y.map LayA.p) (z.map LayA.p) = (true, (y.map LayA.p ++ z.map LayA.p).map LayP.can) by unfold vJoinModels; rw [← HAP.out, HV.out, HV'.out, HVV.out]; simp]
        refine ⟨gs, cp, ys, rfl, ?_, ND.out, by rw [HYP.out, HAP.out], B8.out.setCell (p := ⟨w.heap.size + 1 + 1, 0, none⟩) (by simp; omega) _⟩
        exact OwnL.base (show w.heap.size ≤ w7.heap.size by have := S7.out; omega) _ (O8.out.far (p := ⟨w.heap.size + 1 + 1, 0, none⟩) S7.out _)
theorem OwnL.upk {w w' : World} {B g : Nat} {l : List Cl} (h : OwnL w B l) (hg : w.grownBy w' (some g)) (hne : ∀ q ∈ blL l, q ≠ g) : OwnL w' B l := by
  refine OwnL.apart (GrownIn.of_grown (a := some ⟨g, 0, none⟩) hg) _ h (fun q hq hs => ?_)
  simp [blk] at hs
  exact hne q hq hs
/-- a model in a box, and ok, behind a cut -/
def CutM (W : World) (b : Bool) (zs : List LayP) (K : World → Prop) (s t : Value) (wx : World) : Prop :=
  ∃ (ad : Nat) (gs : Option Addr) (cap : Nat) (ys : List LayA), s = .pointer (some ⟨ad, 0, none⟩) ∧ t = .bool b ∧ Blk wx ad 41 #[.slice gs ys.length cap] ∧ OwnL wx W.heap.size [.sl 59 5 ys.length gs cap (laysC ys)] ∧
    (blL [.sl 59 5 ys.length gs cap (laysC ys)]).Nodup ∧ ys.map (fun x => x.p.can) = zs ∧ (∀ x ∈ blL [.sl 59 5 ys.length gs cap (laysC ys)], x ≠ ad) ∧ Below W.heap.size W wx ∧ K wx
end Go.Proofs.Ytkpcjjnaocdelaa
