/-
  Which plans are valid: what the model and the program answer. Conditions: the cells can be read, and there are at most 1048576 steps.
-/
import Derived.Test.YtdngbfpfhkkmpaaDoorPvs
import Derived.Test.YtdngbfpfhkkmpaaDoorPvi
namespace Go.Proofs.YtdngbfpfhkkmpaaDoor
open Go.RowKit Go.Sort Go.Deep Go.WideShapes Go.ChangeShapes
set_option linter.unusedVariables false
set_option linter.unusedSimpArgs false

def PlRel (ps : List PstP) (n : Nat) (w : World) (iv : Value) (wr : World) : Prop := ∃ j : Nat, j ≤ n ∧ iv = .int .i64 j ∧ okUp (ps.map PstP.lay) j = true ∧ (ps.take j).all pEnd = true ∧ Below w.heap.size w wr
set_option maxRecDepth 20000 in
set_option maxHeartbeats 4000000 in
theorem c_l09Is (gp op : Nat) (g : Option Addr) (cap n : Nat) (ls : List PstA) (v : Bool) (hv : vPln (ls.map PstA.p) = v) (w : World) (hgp : gp < w.heap.size) (hq : w.cell? ⟨gp, op, none⟩ = some (.slice g n cap)) (h : PstsAt w g n cap ls) :
    Calls Tryd.prog 10 #[.pointer (some ⟨gp, op, none⟩)] w fun e w' => e = .returned (.bool v) ∧ Below w.heap.size w w' := by
  have hnm : n ≤ 9223372036854775807 := by have h1 := h.2.1; have h2 := h.2.2.1; unfold maxLen at h2; omega
  have hln : (ls.map PstA.p).length = n := by simpa using h.1
  have H := Lib.hid h
  have HV := Lib.hid hv
  have HN := Lib.hid hln
  have HGP := Lib.hid hgp
  have HQ := Lib.hid hq
  clear h hv hln hgp hq
  go_enter Tryd.func10, Tryd.ntmps10
  go_wp2
  go_loopw [3] (fun iv wr => PlRel (ls.map PstA.p) n w iv wr) (fun iv _ => n - (intOf iv).toNat)
  case atStart => exact ⟨0, Nat.zero_le _, rfl, rfl, by simp, Below.refl _ _⟩
  case round =>
    obtain ⟨j, hj, rfl, hok, hal, hb⟩ := hrel
    have HOK := Lib.hid hok
    have HAL := Lib.hid hal
    have HB := Lib.hid hb
    have hq := (hb.cell (p := ⟨gp, op, none⟩) HGP.out).trans HQ.out
    have eq' := cell_regrown hq
    clear hok hal hb
    by_cases hlt : j < n
    · obtain ⟨b, off, k, i, o, ws, bs, ss, rl, a0, c0, a1, c1, a2, c2, rfl, hbk, hx, q0, q1, q2, q3, q4, q5, q6, f0, f1, f2⟩ := (H.out.kept HB.out).one hlt
      have hm0 : ws.length ≤ 9223372036854775807 := by have h1 := f0.1; have h2 := f0.2.1; unfold maxLen at h2; omega
      have hm1 : bs.length ≤ 9223372036854775807 := by have h1 := f1.1; have h2 := f1.2.1; unfold maxLen at h2; omega
      have hm2 : ss.length ≤ 9223372036854775807 := by have h1 := f2.1; have h2 := f2.2.1; unfold maxLen at h2; omega
      have HM0 := Lib.hid hm0
      have HM1 := Lib.hid hm1
      have HM2 := Lib.hid hm2
      have HX := Lib.hid (pst_map hx)
      have HXL := Lib.hid (pst_lay hx)
      have hlt' : (j : Int) < (n : Int) := by omega
      have e0 := cell_regrown q0
      have e1 := cell_regrown q1
      have e2 := cell_regrown q2
      have e3 := cell_regrown q3
      have e4 := cell_regrown q4
      have e5 := cell_regrown q5
      have e6 := cell_regrown q6
      have E0 := Lib.hid e0
      have E1 := Lib.hid e1
      have E2 := Lib.hid e2
      have E3 := Lib.hid e3
      have E4 := Lib.hid e4
      have E5 := Lib.hid e5
      have E6 := Lib.hid e6
      have HBK := Lib.hid hbk
      clear f0 f1 f2 hx hm0 hm1 hm2 e0 e2 e3 e4 e5 e6
      obtain ⟨u, hu⟩ : ∃ u, (vLay k i o ws.length bs.length && pEndB k o ss.length rl) = u := ⟨_, rfl⟩
      have HU := Lib.hid hu
      have HS := Lib.hid (fun (d : Nat) (os : Array Obj) => c_l09Step b (off + j * 7) k i o a0 a1 a2 ws.length bs.length ss.length c0 c1 c2 rl u HU.out HM0.out HM1.out HM2.out (grow (redrawn wr d) os) (E0.out d os) (E1.out d os) (E2.out d os) (E3.out d os) (E4.out d os) (E5.out d os) (E6.out d os) (Nat.lt_of_lt_of_le HBK.out (below_regrown wr d os).size))
      clear hu q0 q2 q3 q4 q5 q6
      cases u with
      | false =>
        have hv' : v = false := by
          rw [← HV.out]
          cases hv1 : vLay k i o ws.length bs.length with
          | false => exact vPln_no (testAt_no HXL.out hv1) (by rw [HN.out]; exact hlt)
          | true =>
            have h2 := HU.out
            rw [hv1, Bool.true_and] at h2
            exact vPln_end HX.out h2
        subst hv'
        clear e1 q1
        go_wp2_with fail
        refine wp_region_quiet_below (by kernel_rfl) (by kernel_rfl) ?_
        repeat (go_big_quiet_step ((go_at_call 19; exact Calls.regrown_of (HS.out _ _))))
        refine wpQuiet_nil ?_
        intro _ hw'
        obtain ⟨⟨dq, osq⟩, hw''⟩ := hw'
        subst hw''
        have HB2 := Lib.hid (Below.next HB.out (below_regrown wr dq osq))
        generalize grow (redrawn wr dq) osq = w2 at HB2 ⊢
        go_wp2_with fail
        go_ret
        exact ⟨rfl, HB2.out⟩
      | true =>
        have hu := HU.out
        rw [Bool.and_eq_true] at hu
        have HV1 := Lib.hid hu.1
        have HE1 := Lib.hid (all_next HX.out HAL.out hu.2)
        clear hu
        cases j with
        | zero =>
          have HT := Lib.hid ((testAt_zero HXL.out).trans HV1.out)
          clear e1 q1
          go_wp2_with fail
          refine wp_region_quiet_below (by kernel_rfl) (by kernel_rfl) ?_
          repeat (go_big_quiet_step ((go_at_call 19; exact Calls.regrown_of (by simpa using HS.out _ _))))
          refine wpQuiet_nil ?_
          intro _ hw'
          obtain ⟨⟨dq, osq⟩, hw''⟩ := hw'
          subst hw''
          have HB2 := Lib.hid (Below.next HB.out (below_regrown wr dq osq))
          generalize grow (redrawn wr dq) osq = w2 at HB2 ⊢
          go_wp2_with fail
          go_roundw
          case rel => exact ⟨1, by omega, by go_num, by simp only [okUp, HT.out]; rfl, HE1.out, HB2.out⟩
          case measure => simp [intOf]; omega
        | succ m =>
          obtain ⟨b', off', k', i', o', ws', bs', ss', rl', a0', c0', a1', c1', a2', c2', hgg, hbk', hx', r0, r1, r2, r3, r4, r5, r6, f0', f1', f2'⟩ := (H.out.kept HB.out).one (i := m) (by omega)
          simp only [Option.some.injEq, Addr.mk.injEq, and_true] at hgg
          obtain ⟨rfl, rfl⟩ := hgg
          have ht := testAt_succ HXL.out (pst_lay hx')
          rw [show vOne (PstP.lay ⟨k, i, o, ws, bs, ss, rl⟩) = true from HV1.out, Bool.true_and] at ht
          have HT := Lib.hid ht
          have hm0 : (0 : Int) ≤ (m : Int) := by omega
          have hmn : (m : Int) < (n : Int) := by omega
          have e2' := cell_regrown r2
          clear ht f0' f1' f2' hx' r0 r1 r3 r4 r5 r6 hbk'
          by_cases ho : o' = i
          · subst ho
            go_wp2_with fail
            refine wp_region_quiet_below (by kernel_rfl) (by kernel_rfl) ?_
            repeat (go_big_quiet_step ((go_at_call 19; exact Calls.regrown_of (HS.out _ _))))
            refine wpQuiet_nil ?_
            intro _ hw'
            obtain ⟨⟨dq, osq⟩, hw''⟩ := hw'
            subst hw''
            have HB2 := Lib.hid (Below.next HB.out (below_regrown wr dq osq))
            clear e1 e2' q1 r2 eq' hq
            generalize grow (redrawn wr dq) osq = w2 at HB2 ⊢
            go_wp2_with fail
            go_roundw
            case rel => exact ⟨m + 1 + 1, by omega, by go_num, by rw [okUp, HOK.out, HT.out]; simp [PstP.lay], HE1.out, HB2.out⟩
            case measure => simp [intOf]; omega
          · have ho' : (o' != i) = true := by simp [ho]
            have hv' : v = false := by
              rw [← HV.out]
              exact vPln_no (by rw [HT.out]; simp [PstP.lay, ho]) (by rw [HN.out]; exact hlt)
            subst hv'
            clear ho
            go_wp2_with fail
            refine wp_region_quiet_below (by kernel_rfl) (by kernel_rfl) ?_
            repeat (go_big_quiet_step ((go_at_call 19; exact Calls.regrown_of (HS.out _ _))))
            refine wpQuiet_nil ?_
            intro _ hw'
            obtain ⟨⟨dq, osq⟩, hw''⟩ := hw'
            subst hw''
            have HB2 := Lib.hid (Below.next HB.out (below_regrown wr dq osq))
            clear e1 e2' q1 r2 eq' hq
            generalize grow (redrawn wr dq) osq = w2 at HB2 ⊢
            go_wp2_with fail
            go_ret
            exact ⟨rfl, HB2.out⟩
    · obtain rfl : j = n := by omega
      have hv' : v = decide (j ≤ 6) := by
        have h1 := HOK.out
        have h2 := HAL.out
        rw [← HN.out] at h1 h2
        rw [← HV.out, vPln_done h1 h2, HN.out]
      subst hv'
      clear eq'
      go_wp2
      go_ret
      exact ⟨ret_b (by by_cases h6 : j ≤ 6 <;> simp [h6] <;> omega), HB.out⟩
def vValidPlan (ps : List PstP) : Bool := vPln ps
set_option maxHeartbeats 1000000 in
theorem c_iValidPlan (g : Option Addr) (c n : Nat) (ls : List PstA) (v : Bool) (hv : vPln (ls.map PstA.p) = v) (w : World) (h : PstsAt w g n c ls) (hn : n ≤ 1048576) :
    Calls Tryd.prog 13 #[.agg #[.slice g n c]] w fun e w' => e = .returned (.bool v) ∧ Below w.heap.size w w' := by
  have hln : (ls.map PstA.p).length = n := by simpa using h.1
  have al := (Below.refl w.heap.size w).alloc (Nat.le_refl _) (.cells #[.slice g n c] 30)
  have K := Lib.hid (Blk.new w 30 #[.slice g n c])
  have B := Lib.hid al
  have H := Lib.hid (h.kept al)
  unfold vPln at hv
  rw [hln] at hv
  by_cases h0 : n = 0
  · subst h0
    have hv' : v = true := by rw [← hv]; simp
    subst hv'
    clear hv al h hln
    go_enter Tryd.func13, Tryd.ntmps13
    go_wp2
    go_ret
    exact ⟨rfl, B.out⟩
  · have h0' : ((n : Int) == 0) = false := by simp; omega
    rw [decide_eq_false h0, Bool.false_or] at hv
    have HN := Lib.hid hn
    obtain ⟨u, hu⟩ : ∃ u, vMod ((ls.map PstA.p).map PstP.lay) = u := ⟨_, rfl⟩
    rw [hu] at hv
    have HU := Lib.hid hu
    have HV := Lib.hid hv
    clear hv al h hln h0 hn hu
    go_enter Tryd.func13, Tryd.ntmps13
    go_wp2_with fail
    generalize w.alloc (.cells #[.slice g n c] 30) = w1 at K B H ⊢
    refine (c_eachPL g c n ls w1 H.out HN.out).mono ?_
    rintro e w2 ⟨gd, rfl, hl, bl⟩
    have HL := Lib.hid hl
    have H2 := Lib.hid (H.out.kept bl)
    have B2 := Lib.hid (Below.next B.out bl)
    have K2 := Lib.hid (K.out.below bl)
    clear hl bl
    go_wp2_with fail
    refine (c_iValidModel _ n n (ls.map PstA.lay) u (by rw [lay_map]; exact HU.out) w2 HL.out).mono ?_
    rintro e w3 ⟨rfl, bl⟩
    have H3 := Lib.hid (H2.out.kept bl)
    have B3 := Lib.hid (Below.next B2.out bl)
    have K3 := Lib.hid (K2.out.below bl)
    clear bl
    cases u with
    | false =>
      have hv' : v = false := by rw [← HV.out]; rfl
      subst hv'
      go_wp2
      go_ret
      exact ⟨rfl, B3.out⟩
    | true =>
      obtain ⟨p0, pl⟩ := tb1 K3.out
      have hv' : v = (ls.map PstA.p).all pEnd := by rw [← HV.out, Bool.true_and]
      subst hv'
      go_wp2_with fail
      refine (c_isAllP g n c ls w3 H3.out).mono ?_
      rintro e w4 ⟨rfl, bl⟩
      have B4 := Lib.hid (Below.next B3.out bl)
      clear bl p0 pl
      go_wp2
      go_ret
      exact ⟨ret_b (by rw [List.all_map]), B4.out⟩
theorem t_iValidPlan (ps : List PstP) (n : Nat) (g : Option Addr) (c : Nat) (y : List PstA) (w : World) (hp : y.map PstA.p = ps) (h : PstsAt w g n c y) (hn : n ≤ 1048576) :
    Calls Tryd.prog 13 #[.agg #[.slice g n c]] w (RetB (vValidPlan ps) w) :=
  c_iValidPlan g c n y _ (by rw [hp]; rfl) w h hn
end Go.Proofs.YtdngbfpfhkkmpaaDoor
