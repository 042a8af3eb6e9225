/-
  Where two states differ: the program. Conditions: the cells can be read.
-/
import Derived.Test.YtpobdigmjfapbaaDoorChs
import Derived.Test.YtpobdigmjfapbaaDoorAli
namespace Go.Proofs.YtpobdigmjfapbaaDoor
open Go.RowKit Go.Deep Go.WideShapes Go.ChangeShapes
set_option linter.unusedVariables false
attribute [local go_sem] World.drewN_zero

theorem c_sameForm (kk i o kk' i' o' : Int) (a0 a1 a0' a1' : Option Addr) (n0 n1 n0' n1' c0 c1 c0' c1' : Nat) (w : World) :
    Calls Tryd.prog 137 #[.agg #[.int .i64 kk, .int .i64 i, .int .i64 o, .slice a0 n0 c0, .slice a1 n1 c1], .agg #[.int .i64 kk', .int .i64 i', .int .i64 o', .slice a0' n0' c0', .slice a1' n1' c1']] w
      fun e w' => e = .returned (.bool (decide (kk = kk') && (decide (i = i') && decide (o = o')))) ∧ Below w.heap.size w w' := by
  have BB := Lib.hid (two_boxesT w 105 #[.int .i64 kk, .int .i64 i, .int .i64 o, .slice a0 n0 c0, .slice a1 n1 c1] #[.int .i64 kk', .int .i64 i', .int .i64 o', .slice a0' n0' c0', .slice a1' n1' c1']).2.2
  by_cases y1 : kk = kk'
  case neg =>
    have HE := Lib.hid (show false = (decide (kk = kk') && (decide (i = i') && decide (o = o'))) by rw [decide_eq_false y1]; rfl)
    have dn : (kk == kk') = false := beq_eq_false_iff_ne.2 y1
    clear y1
    go_enter Tryd.func137, Tryd.ntmps137
    go_wp2_with fail
    go_ret
    exact ⟨ret_b HE.out, BB.out⟩
  case pos =>
  by_cases y2 : i = i'
  case neg =>
    have HE := Lib.hid (show false = (decide (kk = kk') && (decide (i = i') && decide (o = o'))) by rw [decide_eq_false y2]; simp)
    have dn : (i == i') = false := beq_eq_false_iff_ne.2 y2
    subst y1
    clear y2
    go_enter Tryd.func137, Tryd.ntmps137
    go_wp2_with fail
    go_ret
    exact ⟨ret_b HE.out, BB.out⟩
  case pos =>
  by_cases y3 : o = o'
  case neg =>
    have HE := Lib.hid (show false = (decide (kk = kk') && (decide (i = i') && decide (o = o'))) by rw [decide_eq_false y3]; simp)
    have dn : (o == o') = false := beq_eq_false_iff_ne.2 y3
    subst y1 y2
    clear y3
    go_enter Tryd.func137, Tryd.ntmps137
    go_wp2_with fail
    go_ret
    exact ⟨ret_b HE.out, BB.out⟩
  case pos =>
    have HE := Lib.hid (show true = (decide (kk = kk') && (decide (i = i') && decide (o = o'))) by rw [decide_eq_true y1, decide_eq_true y2, decide_eq_true y3]; rfl)
    subst y1 y2 y3
    go_enter Tryd.func137, Tryd.ntmps137
    go_wp2_with fail
    go_ret
    exact ⟨ret_b HE.out, BB.out⟩
theorem map_lenF {α β : Type} {f : α → β} {ls ls' : List α} (h : ls.length ≠ ls'.length) : ls.map f ≠ ls'.map f := fun e => h (by simpa using congrArg List.length e)
set_option maxRecDepth 20000 in
set_option maxHeartbeats 2000000 in
theorem c_EqForms (g g' : Option Addr) (c c' n n' : Nat) (ls ls' : List LayA) (w : World) (h : LaysAt w g n c ls) (h' : LaysAt w g' n' c' ls') :
    Calls Tryd.prog 136 #[.slice g n c, .slice g' n' c', .func (.func 137) #[] #[]] w fun e w' => e = .returned (.bool (decide (ls.map fmA = ls'.map fmA))) ∧ Below w.heap.size w w' := by
  have hn : n ≤ 9223372036854775807 := by have h1 := h.2.1; have h2 := h.2.2.1; unfold maxLen at h2; omega
  have hn' : n' ≤ 9223372036854775807 := by have h1 := h'.2.1; have h2 := h'.2.2.1; unfold maxLen at h2; omega
  have hN := h.1
  have hN' := h'.1
  obtain ⟨s, hs⟩ : ∃ s, decide (ls.map fmA = ls'.map fmA) = s := ⟨_, rfl⟩
  have HS := Lib.hid hs
  rw [hs]
  by_cases hl : n = n'
  case neg =>
    have HF := Lib.hid (show false = s by rw [← hs]; exact (decide_eq_false (map_lenF (by omega))).symm)
    have hne : ¬ (n : Int) = (n' : Int) := by omega
    clear h h' hs hl hN hN'
    go_enter Tryd.func136, Tryd.ntmps136
    go_wp2_with fail
    go_ret
    exact ⟨ret_b HF.out, Below.refl _ _⟩
  case pos =>
  subst hl
  have H := Lib.hid h
  have H' := Lib.hid h'
  have HN := Lib.hid hN
  have HN' := Lib.hid hN'
  clear h h' hs hN hN'
  go_enter Tryd.func136, Tryd.ntmps136
  go_wp2
  go_loopw [17] (fun i wr => FmRel ls ls' n w i wr) (fun i _ => n - (intOf i).toNat)
  case atStart => exact ⟨0, Nat.zero_le _, rfl, rfl, Below.refl _ _⟩
  case round =>
    obtain ⟨k, hk, rfl, he, hb⟩ := hrel
    have HE := Lib.hid he
    have HB := Lib.hid hb
    clear he hb
    by_cases hlt : k < n
    · obtain ⟨b, off, kk, i, o, ws, bs, a0, c0, a1, c1, rfl, hbk, hx, q0, q1, q2, q3, q4, f0, f1⟩ := (H.out.kept HB.out).one hlt
      obtain ⟨b', off', kk', i', o', ws', bs', a0', c0', a1', c1', rfl, hbk', hx', q0', q1', q2', q3', q4', f0', f1'⟩ := (H'.out.kept HB.out).one hlt
      have HX := Lib.hid hx
      have HX' := Lib.hid hx'
      have hlt' : (k : Int) < (n : Int) := by omega
      have hk0 : (0 : Int) ≤ (k : Int) := by omega
      have BB := Lib.hid (two_boxesT wr 105 #[.int .i64 kk, .int .i64 i, .int .i64 o, .slice a0 ws.length c0, .slice a1 bs.length c1] #[.int .i64 kk', .int .i64 i', .int .i64 o', .slice a0' ws'.length c0', .slice a1' bs'.length c1']).2.2
      clear hx hx' f0 f1 f0' f1'
      go_wp2_with fail
      refine (c_sameForm kk i o kk' i' o' a0 a1 a0' a1' ws.length bs.length ws'.length bs'.length c0 c1 c0' c1' _).mono ?_
      rintro e wz ⟨rfl, hb⟩
      have HB2 := Lib.hid (Below.next (Below.next HB.out BB.out) hb)
      clear hb q0 q1 q2 q3 q4 q0' q1' q2' q3' q4'
      by_cases heq : kk = kk' ∧ i = i' ∧ o = o'
      · have HQ := Lib.hid heq
        rw [show (decide (kk = kk') && (decide (i = i') && decide (o = o'))) = true by
          obtain ⟨h1, h2, h3⟩ := heq
          rw [decide_eq_true h1, decide_eq_true h2, decide_eq_true h3]; rfl]
        clear heq
        go_wp2_with fail
        go_roundw
        case rel => exact ⟨k + 1, by omega, by go_num, map_takeF HE.out HX.out HX'.out (by obtain ⟨h1, h2, h3⟩ := HQ.out; simp [fmA, fmP, h1, h2, h3]), HB2.out⟩
        case measure => simp [intOf]; omega
      · have HF2 := Lib.hid (show false = s by rw [← HS.out]; exact (decide_eq_false (map_neF (f := fmA) HX.out HX'.out (fun h => heq (by simpa [fmA, fmP] using h)))).symm)
        rw [show (decide (kk = kk') && (decide (i = i') && decide (o = o'))) = false by
          rw [Bool.eq_false_iff]
          intro h
          simp only [Bool.and_eq_true, decide_eq_true_eq] at h
          exact heq h]
        clear heq
        go_wp2_with fail
        go_ret
        exact ⟨ret_b HF2.out, HB2.out⟩
    · obtain rfl : k = n := by omega
      have HT := Lib.hid (show true = s by
        rw [← HS.out]
        have h1 := HE.out
        have e1 := HN.out
        have e2 := HN'.out
        rw [List.take_of_length_le (by omega), List.take_of_length_le (by omega)] at h1
        exact (decide_eq_true h1).symm)
      go_wp2
      go_ret
      exact ⟨ret_b HT.out, HB.out⟩
set_option maxHeartbeats 2000000 in
theorem c_fit (q q' : TrsA) (w : World) (h : TrsAt w q) (h' : TrsAt w q') :
    Calls Tryd.prog 111 #[.agg q.cells, .agg q'.cells] w fun e w' => e = .returned (.bool (formsB q.ps q'.ps && decide (q.ss.length = q'.ss.length))) ∧ Below w.heap.size w w' := by
  obtain ⟨k1, k2, bb⟩ := two_boxesT w 51 q.cells q'.cells
  obtain ⟨g, c, ls, hh, d, ss, st, sd, sc⟩ := q
  obtain ⟨g', c', ls', hh', d', ss', st', sd', sc'⟩ := q'
  simp only [TrsAt] at h h'
  obtain ⟨a1, a2, a3⟩ := h
  obtain ⟨b1, b2, b3⟩ := h'
  unfold TrsA.cells at *
  simp only [TrsA.ps] at k1 k2 bb ⊢
  rw [formsB_A]
  have n3 : ss.length ≤ 9223372036854775807 := by have h1 := a2.2.1; have h2 := a2.2.2.1; unfold maxLen at h2; omega
  have n4 : ss'.length ≤ 9223372036854775807 := by have h1 := b2.2.1; have h2 := b2.2.2.1; unfold maxLen at h2; omega
  have HL := Lib.hid (fun W (hb : Below w.heap.size w W) => c_EqForms g g' c c' ls.length ls'.length ls ls' W (a1.kept hb) (b1.kept hb))
  obtain ⟨u, hu⟩ : ∃ u, decide (ls.map fmA = ls'.map fmA) = u := ⟨_, rfl⟩
  rw [hu] at HL ⊢
  obtain ⟨nl, hnl⟩ : ∃ n, ls.length = n := ⟨_, rfl⟩
  obtain ⟨nl', hnl'⟩ : ∃ n, ls'.length = n := ⟨_, rfl⟩
  obtain ⟨m, hm⟩ : ∃ n, ss.length = n := ⟨_, rfl⟩
  obtain ⟨m', hm'⟩ : ∃ n, ss'.length = n := ⟨_, rfl⟩
  simp only [hnl, hnl', hm, hm'] at k1 k2 bb HL n3 n4 ⊢
  have K1 := Lib.hid k1
  have K2 := Lib.hid k2
  have B := Lib.hid bb
  clear a1 a2 a3 b1 b2 b3 k1 k2 bb hu hnl hnl' hm hm'
  cases u with
  | false =>
    go_enter Tryd.func111, Tryd.ntmps111
    go_wp2_with fail
    refine (HL.out _ B.out).mono ?_
    rintro e w2 ⟨rfl, hb⟩
    have B2 := Lib.hid (Below.next B.out hb)
    clear hb
    go_wp2_with fail
    go_ret
    exact ⟨ret_b rfl, B2.out⟩
  | true =>
    by_cases x2 : m = m'
    case neg =>
      have HE := Lib.hid (show false = (true && decide (m = m')) by rw [decide_eq_false x2]; rfl)
      have hne : ¬ (m : Int) = (m' : Int) := by omega
      have dn : ((m : Int) == (m' : Int)) = false := beq_eq_false_iff_ne.2 hne
      clear x2 hne
      go_enter Tryd.func111, Tryd.ntmps111
      go_wp2_with fail
      refine (HL.out _ B.out).mono ?_
      rintro e w2 ⟨rfl, hb⟩
      have B2 := Lib.hid (Below.next B.out hb)
      obtain ⟨p0, p1, p2, p3, p4, p5⟩ := tbt5 (K1.out.below hb)
      obtain ⟨q0, q1, q2, q3, q4, q5⟩ := tbt5 (K2.out.below hb)
      clear hb
      go_wp2_with fail
      go_ret
      exact ⟨ret_b HE.out, B2.out⟩
    case pos =>
      have HE := Lib.hid (show true = (true && decide (m = m')) by rw [decide_eq_true x2]; rfl)
      subst x2
      go_enter Tryd.func111, Tryd.ntmps111
      go_wp2_with fail
      refine (HL.out _ B.out).mono ?_
      rintro e w2 ⟨rfl, hb⟩
      have B2 := Lib.hid (Below.next B.out hb)
      obtain ⟨p0, p1, p2, p3, p4, p5⟩ := tbt5 (K1.out.below hb)
      obtain ⟨q0, q1, q2, q3, q4, q5⟩ := tbt5 (K2.out.below hb)
      clear hb
      go_wp2_with fail
      go_ret
      exact ⟨ret_b HE.out, B2.out⟩
set_option maxRecDepth 20000 in
set_option maxHeartbeats 4000000 in
theorem t_iChangedNumbers (q q' : TrsA) (w : World) (h : TrsAt w q) (h' : TrsAt w q') : Calls Tryd.prog 68 #[.agg q.cells, .agg q'.cells] w (RetI (vChangedNumbers q q').1 (vChangedNumbers q q').2 w) := by
  obtain ⟨k1, k2, bb⟩ := two_boxesT w 51 q.cells q'.cells
  have HC := Lib.hid (fun W (hb : Below w.heap.size w W) => t_iIsStorable q W (h.kept hb))
  have HC' := Lib.hid (fun W (hb : Below w.heap.size w W) => t_iIsStorable q' W (h'.kept hb))
  have HG := Lib.hid (fun W (hb : Below w.heap.size w W) => c_fit q q' W (h.kept hb) (h'.kept hb))
  have HD := Lib.hid (fun W (hb : Below w.heap.size w W) hs => c_numbers q W (h.kept hb) hs)
  have HD' := Lib.hid (fun W (hb : Below w.heap.size w W) hs => c_numbers q' W (h'.kept hb) hs)
  obtain ⟨s, hs⟩ : ∃ s, fitTB q q' = s := ⟨_, rfl⟩
  have HV := Lib.hid (show vChangedNumbers q q' = if s = true then (true, chgL (allN q) (allN q')) else (false, []) by rw [← hs]; rfl)
  have HL := Lib.hid (show s = true → (allN q).length = (allN q').length ∧ (allN q).length ≤ 2160 from fun e => fit_len (hs.trans e))
  rw [HV.out]
  unfold fitTB at hs
  obtain ⟨u, hu⟩ : ∃ u, stbB q = u := ⟨_, rfl⟩
  obtain ⟨u', hu'⟩ : ∃ u, stbB q' = u := ⟨_, rfl⟩
  obtain ⟨f, hf⟩ : ∃ u, (formsB q.ps q'.ps && decide (q.ss.length = q'.ss.length)) = u := ⟨_, rfl⟩
  rw [hu, hu', hf] at hs
  rw [hu] at HC
  rw [hu'] at HC'
  rw [hf] at HG
  have F1 := Lib.hid hu
  have F2 := Lib.hid hu'
  obtain ⟨X, hX⟩ : ∃ X, allN q = X := ⟨_, rfl⟩
  obtain ⟨Y, hY⟩ : ∃ X, allN q' = X := ⟨_, rfl⟩
  rw [hX] at HD HL ⊢
  rw [hY] at HD' HL ⊢
  obtain ⟨a0, a1, a2, a3, a4, a5, a6, a7, a8, ha⟩ := cells5 q
  obtain ⟨b0, b1, b2, b3, b4, b5, b6, b7, b8, hb⟩ := cells5 q'
  rw [ha, hb] at k1 k2 bb ⊢
  rw [ha] at HC HD
  rw [hb] at HC' HD'
  rw [ha, hb] at HG
  have K1 := Lib.hid k1
  have K2 := Lib.hid k2
  have B := Lib.hid bb
  clear h h' k1 k2 bb HV hX hY ha hb hu hu' hf
  cases u with
  | false =>
    obtain rfl : false = s := hs
    rw [if_neg (by decide)]
    go_enter Tryd.func68, Tryd.ntmps68
    go_wp2_with fail
    refine (HC.out _ B.out).mono ?_
    rintro e w2 ⟨rfl, hb⟩
    have B2 := Lib.hid (Below.next B.out hb)
    have K12 := Lib.hid (K1.out.below hb)
    have K22 := Lib.hid (K2.out.below hb)
    clear hb
    obtain ⟨p0, p1, p2, p3, p4, p5⟩ := tbt5 K12.out
    obtain ⟨q0, q1, q2, q3, q4, q5⟩ := tbt5 K22.out
    go_wp2_with fail
    go_ret2
    exact ⟨none, 0, [], rfl, nil_ownI _ _, rfl, B2.out⟩
  | true =>
  cases u' with
  | false =>
    obtain rfl : false = s := hs
    rw [if_neg (by decide)]
    go_enter Tryd.func68, Tryd.ntmps68
    go_wp2_with fail
    refine (HC.out _ B.out).mono ?_
    rintro e w2 ⟨rfl, hb⟩
    have B2 := Lib.hid (Below.next B.out hb)
    have K12 := Lib.hid (K1.out.below hb)
    have K22 := Lib.hid (K2.out.below hb)
    clear hb
    obtain ⟨p0, p1, p2, p3, p4, p5⟩ := tbt5 K12.out
    obtain ⟨q0, q1, q2, q3, q4, q5⟩ := tbt5 K22.out
    go_wp2_with fail
    clear p0 p1 p2 p3 p4 p5 q0 q1 q2 q3 q4 q5
    refine (HC'.out _ B2.out).mono ?_
    rintro e w3 ⟨rfl, hb⟩
    have B3 := Lib.hid (Below.next B2.out hb)
    have K13 := Lib.hid (K12.out.below hb)
    have K23 := Lib.hid (K22.out.below hb)
    clear hb
    obtain ⟨p0, p1, p2, p3, p4, p5⟩ := tbt5 K13.out
    obtain ⟨q0, q1, q2, q3, q4, q5⟩ := tbt5 K23.out
    go_wp2_with fail
    go_ret2
    exact ⟨none, 0, [], rfl, nil_ownI _ _, rfl, B3.out⟩
  | true =>
  cases f with
  | false =>
    obtain rfl : false = s := hs
    rw [if_neg (by decide)]
    go_enter Tryd.func68, Tryd.ntmps68
    go_wp2_with fail
    refine (HC.out _ B.out).mono ?_
    rintro e w2 ⟨rfl, hb⟩
    have B2 := Lib.hid (Below.next B.out hb)
    have K12 := Lib.hid (K1.out.below hb)
    have K22 := Lib.hid (K2.out.below hb)
    clear hb
    obtain ⟨p0, p1, p2, p3, p4, p5⟩ := tbt5 K12.out
    obtain ⟨q0, q1, q2, q3, q4, q5⟩ := tbt5 K22.out
    go_wp2_with fail
    clear p0 p1 p2 p3 p4 p5 q0 q1 q2 q3 q4 q5
    refine (HC'.out _ B2.out).mono ?_
    rintro e w3 ⟨rfl, hb⟩
    have B3 := Lib.hid (Below.next B2.out hb)
    have K13 := Lib.hid (K12.out.below hb)
    have K23 := Lib.hid (K22.out.below hb)
    clear hb
    obtain ⟨p0, p1, p2, p3, p4, p5⟩ := tbt5 K13.out
    obtain ⟨q0, q1, q2, q3, q4, q5⟩ := tbt5 K23.out
    go_wp2_with fail
    clear p0 p1 p2 p3 p4 p5 q0 q1 q2 q3 q4 q5
    refine (HG.out _ B3.out).mono ?_
    rintro e w4 ⟨rfl, hb⟩
    have B4 := Lib.hid (Below.next B3.out hb)
    have K14 := Lib.hid (K13.out.below hb)
    have K24 := Lib.hid (K23.out.below hb)
    clear hb
    obtain ⟨p0, p1, p2, p3, p4, p5⟩ := tbt5 K14.out
    obtain ⟨q0, q1, q2, q3, q4, q5⟩ := tbt5 K24.out
    go_wp2_with fail
    go_ret2
    exact ⟨none, 0, [], rfl, nil_ownI _ _, rfl, B4.out⟩
  | true =>
    obtain rfl : true = s := hs
    rw [if_pos rfl]
    obtain ⟨hl, hl4⟩ := HL.out rfl
    have HL1 := Lib.hid hl
    have HL4 := Lib.hid hl4
    obtain ⟨i0, hi, hz0, hz1, hz2⟩ := info_parts info_j64
    have JI := Lib.hid hi
    have HZ0 := Lib.hid hz0
    have HZ1 := Lib.hid hz1
    have HZ2 := Lib.hid hz2
    clear hl hl4 hi hz0 hz1 hz2
    go_enter Tryd.func68, Tryd.ntmps68
    go_wp2_with fail
    refine (HC.out _ B.out).mono ?_
    rintro e w2 ⟨rfl, hb⟩
    have B2 := Lib.hid (Below.next B.out hb)
    have K12 := Lib.hid (K1.out.below hb)
    have K22 := Lib.hid (K2.out.below hb)
    clear hb
    obtain ⟨p0, p1, p2, p3, p4, p5⟩ := tbt5 K12.out
    obtain ⟨q0, q1, q2, q3, q4, q5⟩ := tbt5 K22.out
    go_wp2_with fail
    clear p0 p1 p2 p3 p4 p5 q0 q1 q2 q3 q4 q5
    refine (HC'.out _ B2.out).mono ?_
    rintro e w3 ⟨rfl, hb⟩
    have B3 := Lib.hid (Below.next B2.out hb)
    have K13 := Lib.hid (K12.out.below hb)
    have K23 := Lib.hid (K22.out.below hb)
    clear hb
    obtain ⟨p0, p1, p2, p3, p4, p5⟩ := tbt5 K13.out
    obtain ⟨q0, q1, q2, q3, q4, q5⟩ := tbt5 K23.out
    go_wp2_with fail
    clear p0 p1 p2 p3 p4 p5 q0 q1 q2 q3 q4 q5
    refine (HG.out _ B3.out).mono ?_
    rintro e w4 ⟨rfl, hb⟩
    have B4 := Lib.hid (Below.next B3.out hb)
    have K14 := Lib.hid (K13.out.below hb)
    have K24 := Lib.hid (K23.out.below hb)
    clear hb
    obtain ⟨p0, p1, p2, p3, p4, p5⟩ := tbt5 K14.out
    obtain ⟨q0, q1, q2, q3, q4, q5⟩ := tbt5 K24.out
    go_wp2_with fail
    clear p0 p1 p2 p3 p4 p5 q0 q1 q2 q3 q4 q5
    refine (HD'.out _ B4.out F2.out).mono ?_
    rintro e w5 ⟨b, cp, rfl, ho, hb⟩
    have B5 := Lib.hid (Below.next B4.out hb)
    have K15 := Lib.hid (K14.out.below hb)
    have K25 := Lib.hid (K24.out.below hb)
    have O5 := Lib.hid ho.isFloats
    clear ho
    clear hb
    obtain ⟨p0, p1, p2, p3, p4, p5⟩ := tbt5 K15.out
    obtain ⟨q0, q1, q2, q3, q4, q5⟩ := tbt5 K25.out
    go_wp2_with fail
    clear p0 p1 p2 p3 p4 p5 q0 q1 q2 q3 q4 q5
    refine (HD.out _ B5.out F1.out).mono ?_
    rintro e w6 ⟨b', cp', rfl, ho, hb⟩
    have B6 := Lib.hid (Below.next B5.out hb)
    have K16 := Lib.hid (K15.out.below hb)
    have K26 := Lib.hid (K25.out.below hb)
    have O6 := Lib.hid (O5.out.kept hb)
    have P6 := Lib.hid ho.isFloats
    clear ho
    clear hb
    have HCL := Lib.hid (show chgL X Y = chgU X Y X.length from rfl)
    rw [HCL.out]
    obtain ⟨n, hn⟩ : ∃ n, X.length = n := ⟨_, rfl⟩
    have HNX := Lib.hid hn
    have hl1 := HL1.out
    have hn4 := HL4.out
    rw [hn] at hl1 hn4
    rw [← hl1] at O6 ⊢
    rw [hn] at P6 ⊢
    have hn64 : (n : Int) ≤ 2160 := by omega
    clear hn hl1 HL1 HL4 HL
    go_wp2_with fail
    go_loopw [6, 29] (fun s i wr => ChgRel X Y n w6 s i wr) (fun _ i _ => n - (intOf i).toNat)
    case atStart => exact ⟨0, none, 0, Nat.zero_le _, rfl, rfl, nil_ownI _ _, Below.refl _ _⟩
    case round =>
      obtain ⟨k, pa, pc, hk, rfl, rfl, ho, hb⟩ := hrel
      have HO := Lib.hid ho
      have HL := Lib.hid hb
      have hk0 : (0 : Int) ≤ (k : Int) := by omega
      have hk4 : k ≤ 2160 := by omega
      clear ho hb
      by_cases hlt : k < n
      · have hlt' : (k : Int) < (n : Int) := by omega
        obtain ⟨b1, o1, rfl, hb1, c1, l1⟩ := flt_at (P6.out.kept HL.out) hlt
        obtain ⟨b2, o2, rfl, hb2, c2, l2⟩ := flt_at (O6.out.kept HL.out) hlt
        have hs := fun W => c_iSameNumber (X.getD k 0) (Y.getD k 0) l1 l2 W
        simp only [dif_bool] at hs
        have hle := chgU_le X Y k
        cases hd : difB X Y k with
        | false =>
          simp only [hd, Bool.not_false] at hs
          have HS := Lib.hid hs
          have HN := Lib.hid (chgU_no hd)
          clear hs hd l1 l2 hle
          go_wp2_with fail
          refine (HS.out _).mono ?_
          rintro e wz ⟨rfl, rfl⟩
          clear c1 c2
          go_wp2_with fail
          go_roundw
          case rel => exact ⟨k + 1, pa, pc, hlt, by go_num, by rw [HN.out], by rw [HN.out]; exact HO.out, HL.out⟩
          case measure => simp [intOf]; omega
        | true =>
          simp only [hd, Bool.not_true] at hs
          have HS := Lib.hid hs
          have HN := Lib.hid (chgU_yes hd)
          have HW := Lib.hid (wf_natL (n := k) (by omega))
          obtain ⟨zs, hzs⟩ : ∃ zs, chgU X Y k = zs := ⟨_, rfl⟩
          rw [hzs] at HO HN hle ⊢
          have A1 := Lib.hid (show zs.length + 1 ≤ maxLen by unfold maxLen; omega)
          have A2 := Lib.hid (show (zs.length + 1) * 8 ≤ 140737488355328 by omega)
          have A3 := Lib.hid HL.out.size
          clear hs hd l1 l2 hle hzs
          go_wp2_with fail
          refine (HS.out _).mono ?_
          rintro e wz ⟨rfl, rfl⟩
          clear c1 c2
          go_wp2_with (at_builtin; refine wpList_append_any _ rfl (.tmp 41) (.tmp 43) 110 rfl w6.heap.size 2 i0 (.int .i64 0) 1 8 Tryd.underlying110 JI.out HZ0.out HZ1.out HZ2.out rfl Nat.one_pos (.slice pa zs.length pc) zs.length (zs.map toV) rfl (growJ_own HO.out) (wr.heap.size + 1) (some ⟨wr.heap.size, 0, none⟩) 1 1 [.int .i64 k] rfl growJ_reads (one_i64 _) A1.out A2.out (growJ_base A3.out) ?_; intro v' w' hown hgr hat; obtain ⟨a', c', rfl⟩ := ownsRow_slice hown; have HMD := Lib.hid (growL_next HO.out (Nat.le_refl _) HL.out HW.out hown hgr); clear hown hgr hat)
          go_roundw
          case rel =>
            obtain ⟨t1, t2⟩ := HMD.out
            refine ⟨k + 1, a', c', hlt, by go_num, by rw [HN.out, List.length_append]; rfl, by rw [HN.out]; exact t1, t2⟩
          case measure => simp [intOf]; omega
      · obtain rfl : k = n := by omega
        go_wp2_with fail
        go_ret2
        exact ⟨pa, pc, _, rfl, HO.out.base B6.out.size, (by rw [HCL.out, HNX.out]), Below.next B6.out HL.out⟩
end Go.Proofs.YtpobdigmjfapbaaDoor
