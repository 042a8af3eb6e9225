/-
  SameTraining: the program and its model answer alike. Conditions: the cells can be read.
-/
import Derived.Test.YtlddonneccihiaaSms
namespace Go.Proofs.Ytlddonneccihiaa
open Go.RowKit Go.Deep Go.WideShapes Go.ChangeShapes
set_option linter.unusedVariables false
attribute [local go_sem] World.drewN_zero

set_option maxHeartbeats 1000000 in
theorem t_sSameTraining (q q' : TrsA) (w : World) (h : TrsAt w q) (h' : TrsAt w q') : Calls Try.prog 8 #[.agg q.cells, .agg q'.cells] w (RetB (vSame q q') w) := by
  obtain ⟨k1, k2, bb⟩ := two_boxes w 35 q.cells q'.cells
  have HC := Lib.hid (fun W (hb : Below w.heap.size w W) k1 k2 => c_l07Same w.heap.size (w.heap.size + 1) q q' W (h.kept hb) (h'.kept hb) k1 k2)
  obtain ⟨s, hs⟩ : ∃ s, vSame q q' = s := ⟨_, rfl⟩
  rw [hs] at HC
  rw [hs]
  obtain ⟨g, c, ls, hh, d, ss, st, sd, sc⟩ := q
  obtain ⟨g', c', ls', hh', d', ss', st', sd', sc'⟩ := q'
  have K1 := Lib.hid k1
  have K2 := Lib.hid k2
  have B := Lib.hid bb
  unfold TrsA.cells at *
  clear h h' k1 k2 bb hs
  simp only at HC K1 K2 B ⊢
  go_enter Try.func8, Try.ntmps8
  go_wp2_with fail
  refine (HC.out _ B.out K1.out K2.out).mono ?_
  rintro e w2 ⟨rfl, hb⟩
  have B2 := Lib.hid (Below.next B.out hb)
  clear hb
  go_wp2_with fail
  go_ret
  exact ⟨rfl, B2.out⟩
theorem c_sameModelsL (g g' : Option Addr) (c c' : Nat) (ls ls' : List LayA) (w : World) (h : LaysAt w g ls.length c ls) (h' : LaysAt w g' ls'.length c' ls') :
    Calls Try.prog 32 #[.agg #[.slice g ls.length c], .agg #[.slice g' ls'.length c']] w fun e w' => e = .returned (.bool (sameLs ls ls')) ∧ Below w.heap.size w w' := by
  have HL := Lib.hid (fun W (hb : Below w.heap.size w W) => c_EqLs g g' c c' ls.length ls'.length ls ls' W (h.kept hb) (h'.kept hb))
  have B := Lib.hid (((Below.refl w.heap.size w).alloc (Nat.le_refl _) (.cells #[.slice g ls.length c] 33)).alloc (by simp) (.cells #[.slice g' ls'.length c'] 33))
  clear h h'
  go_enter Try.func32, Try.ntmps32
  go_wp2_with fail
  refine (HL.out _ B.out).mono ?_
  rintro e w2 ⟨rfl, hb⟩
  have B2 := Lib.hid (Below.next B.out hb)
  clear hb
  go_wp2_with fail
  go_ret
  exact ⟨rfl, B2.out⟩
set_option maxHeartbeats 4000000 in
theorem t_iSameTraining (q q' : TrsA) (w : World) (h : TrsAt w q) (h' : TrsAt w q') : Calls Try.prog 10 #[.agg q.cells, .agg q'.cells] w (RetB (vSame q q') w) := by
  obtain ⟨k1, k2, bb⟩ := two_boxes w 35 q.cells q'.cells
  obtain ⟨g, c, ls, hh, d, ss, st, sd, sc⟩ := q
  obtain ⟨g', c', ls', hh', d', ss', st', sd', sc'⟩ := q'
  simp only [TrsAt] at h h'
  obtain ⟨a1, a2, a3⟩ := h
  obtain ⟨b1, b2, b3⟩ := h'
  unfold TrsA.cells at *
  simp only at k1 k2 bb ⊢
  have hv : vSame ⟨g, c, ls, hh, d, ss, st, sd, sc⟩ ⟨g', c', ls', hh', d', ss', st', sd', sc'⟩ = (sameLs ls ls' && (sameSS ss ss' && (decide (st = st') && (decide (sd = sd') && decide (canon .f32 sc = canon .f32 sc'))))) := rfl
  rw [hv]
  clear hv
  have HL := Lib.hid (fun W (hb : Below w.heap.size w W) => c_sameModelsL g g' c c' ls ls' W (a1.kept hb) (b1.kept hb))
  have HS := Lib.hid (fun W (hb : Below w.heap.size w W) => c_EqSS hh hh' d d' ss.length ss'.length ss ss' W (a2.kept hb) (b2.kept hb))
  have HN := Lib.hid (fun W => c_iSameNumber sc sc' a3 b3 W)
  have K1 := Lib.hid k1
  have K2 := Lib.hid k2
  have B := Lib.hid bb
  clear a1 a2 a3 b1 b2 b3 k1 k2 bb
  obtain ⟨u, hu⟩ : ∃ u, sameLs ls ls' = u := ⟨_, rfl⟩
  obtain ⟨v, hv⟩ : ∃ u, sameSS ss ss' = u := ⟨_, rfl⟩
  rw [hu] at HL ⊢
  rw [hv] at HS ⊢
  clear hu hv
  obtain ⟨nl, hnl⟩ : ∃ n, ls.length = n := ⟨_, rfl⟩
  obtain ⟨nl', hnl'⟩ : ∃ n, ls'.length = n := ⟨_, rfl⟩
  obtain ⟨ns, hns⟩ : ∃ n, ss.length = n := ⟨_, rfl⟩
  obtain ⟨ns', hns'⟩ : ∃ n, ss'.length = n := ⟨_, rfl⟩
  rw [hnl, hns] at K1 B ⊢
  rw [hnl', hns'] at K2 B ⊢
  rw [hnl, hns] at K2
  rw [hnl', hns'] at K1
  rw [hnl, hnl'] at HL
  rw [hns, hns'] at HS
  clear hnl hnl' hns hns'
  cases u with
  | false =>
    go_enter Try.func10, Try.ntmps10
    obtain ⟨p0, p1, p2, p3, p4, p5⟩ := tbt5 K1.out
    obtain ⟨q0, q1, q2, q3, q4, q5⟩ := tbt5 K2.out
    go_wp2_with fail
    clear p0 p1 p2 p3 p4 p5 q0 q1 q2 q3 q4 q5
    refine (HL.out _ B.out).mono ?_
    rintro e w2 ⟨rfl, hb⟩
    have B2 := Lib.hid (Below.next B.out hb)
    clear hb
    go_wp2_with fail
    go_ret
    exact ⟨ret_b rfl, B2.out⟩
  | true =>
  cases v with
  | false =>
    go_enter Try.func10, Try.ntmps10
    obtain ⟨p0, p1, p2, p3, p4, p5⟩ := tbt5 K1.out
    obtain ⟨q0, q1, q2, q3, q4, q5⟩ := tbt5 K2.out
    go_wp2_with fail
    clear p0 p1 p2 p3 p4 p5 q0 q1 q2 q3 q4 q5
    refine (HL.out _ B.out).mono ?_
    rintro e w2 ⟨rfl, hb⟩
    have B2 := Lib.hid (Below.next B.out hb)
    obtain ⟨p0, p1, p2, p3, p4, p5⟩ := tbt5 (K1.out.below hb)
    obtain ⟨q0, q1, q2, q3, q4, q5⟩ := tbt5 (K2.out.below hb)
    clear hb
    go_wp2_with fail
    refine (HS.out _ B2.out).mono ?_
    rintro e w3 ⟨rfl, rfl⟩
    go_wp2_with fail
    go_ret
    exact ⟨ret_b rfl, B2.out⟩
  | true =>
    by_cases e1 : st = st'
    case neg =>
      rw [decide_eq_false e1]
      have dn : (st == st') = false := beq_eq_false_iff_ne.2 e1
      clear e1
      go_enter Try.func10, Try.ntmps10
      go_wp2_with fail
      refine (HL.out _ B.out).mono ?_
      rintro e w2 ⟨rfl, hb⟩
      have B2 := Lib.hid (Below.next B.out hb)
      obtain ⟨p0, p1, p2, p3, p4, p5⟩ := tbt5 (K1.out.below hb)
      obtain ⟨q0, q1, q2, q3, q4, q5⟩ := tbt5 (K2.out.below hb)
      clear hb
      go_wp2_with fail
      refine (HS.out _ B2.out).mono ?_
      rintro e w3 ⟨rfl, rfl⟩
      go_wp2_with fail
      go_ret
      exact ⟨ret_b rfl, B2.out⟩
    case pos =>
    by_cases e2 : sd = sd'
    case neg =>
      rw [decide_eq_true e1, decide_eq_false e2]
      have dn : (sd == sd') = false := beq_eq_false_iff_ne.2 e2
      subst e1
      clear e2
      go_enter Try.func10, Try.ntmps10
      go_wp2_with fail
      refine (HL.out _ B.out).mono ?_
      rintro e w2 ⟨rfl, hb⟩
      have B2 := Lib.hid (Below.next B.out hb)
      obtain ⟨p0, p1, p2, p3, p4, p5⟩ := tbt5 (K1.out.below hb)
      obtain ⟨q0, q1, q2, q3, q4, q5⟩ := tbt5 (K2.out.below hb)
      clear hb
      go_wp2_with fail
      refine (HS.out _ B2.out).mono ?_
      rintro e w3 ⟨rfl, rfl⟩
      go_wp2_with fail
      go_ret
      exact ⟨ret_b rfl, B2.out⟩
    case pos =>
      rw [decide_eq_true e1, decide_eq_true e2]
      subst e1 e2
      have hb : ((canon .f32 sc : Int) == (canon .f32 sc' : Int)) = decide (canon .f32 sc = canon .f32 sc') := by
        by_cases h : canon .f32 sc = canon .f32 sc'
        · rw [h, decide_eq_true rfl]; exact beq_self_eq_true _
        · rw [decide_eq_false h, beq_eq_false_iff_ne]; intro e; exact h (by omega)
      have HN2 := HN.out
      simp only [hb] at HN2
      have HN3 := Lib.hid HN2
      clear HN HN2 hb
      go_enter Try.func10, Try.ntmps10
      go_wp2_with fail
      refine (HL.out _ B.out).mono ?_
      rintro e w2 ⟨rfl, hb⟩
      have B2 := Lib.hid (Below.next B.out hb)
      obtain ⟨p0, p1, p2, p3, p4, p5⟩ := tbt5 (K1.out.below hb)
      obtain ⟨q0, q1, q2, q3, q4, q5⟩ := tbt5 (K2.out.below hb)
      clear hb
      go_wp2_with fail
      refine (HS.out _ B2.out).mono ?_
      rintro e w3 ⟨rfl, rfl⟩
      go_wp2_with fail
      refine (HN3.out _).mono ?_
      rintro e w4 ⟨rfl, rfl⟩
      go_wp2_with fail
      go_ret
      exact ⟨ret_b (by simp), B2.out⟩
end Go.Proofs.Ytlddonneccihiaa
