/-
  Which models are valid: what the model and the program answer. Conditions: the cells can be read.
-/
import Derived.Test.YtaipegkkpkagnaaVLay
import Derived.Test.YtaipegkkpkagnaaMod
import Derived.Lib.QuietBelow
namespace Go.Proofs.Ytaipegkkpkagnaa
open Go.RowKit Go.Sort
set_option linter.unusedVariables false

def vOne (p : LayP) : Bool := vLay p.k p.i p.o p.ws.length p.bs.length
/-- the test at one layer -/
def testAt (ps : List LayP) (j : Nat) : Bool := match ps[j]? with
  | some p => vOne p && (match j with
    | 0 => true
    | m + 1 => match ps[m]? with
      | some q => q.o == p.i
      | none => true)
  | none => true
def okUp (ps : List LayP) : Nat → Bool
  | 0 => true
  | j + 1 => okUp ps j && testAt ps j
def vMod (ps : List LayP) : Bool := (decide (1 ≤ ps.length) && decide (ps.length ≤ 6)) && okUp ps ps.length
theorem okUp_no {ps : List LayP} {j : Nat} (h : testAt ps j = false) : ∀ n, j < n → okUp ps n = false := by
  intro n
  induction n with
  | zero => intro hn; omega
  | succ n ih =>
    intro hn
    simp only [okUp]
    by_cases hj : j < n
    · rw [ih hj]; rfl
    · obtain rfl : j = n := by omega
      rw [h]; simp
theorem vMod_no {ps : List LayP} {j : Nat} (h : testAt ps j = false) (hj : j < ps.length) : vMod ps = false := by
  rw [vMod, okUp_no h _ hj]; simp
theorem at_map {ls : List LayA} {j : Nat} {x : LayA} (h : ls[j]? = some x) : (ls.map LayA.p)[j]? = some x.p := by simp [h]
theorem testAt_zero {ps : List LayP} {p : LayP} (h : ps[0]? = some p) : testAt ps 0 = vOne p := by simp [testAt, h]
theorem testAt_succ {ps : List LayP} {m : Nat} {p q : LayP} (h : ps[m + 1]? = some p) (hq : ps[m]? = some q) : testAt ps (m + 1) = (vOne p && (q.o == p.i)) := by simp [testAt, h, hq]
theorem testAt_no {ps : List LayP} {j : Nat} {p : LayP} (h : ps[j]? = some p) (hv : vOne p = false) : testAt ps j = false := by
  cases j with
  | zero => rw [testAt_zero h, hv]
  | succ m => simp [testAt, h, hv]
def IsRel (ps : List LayP) (n : Nat) (w : World) (iv : Value) (wr : World) : Prop := ∃ j m : Nat, j ≤ n ∧ iv = .int .i64 j ∧ okUp ps j = true ∧ wr = w.drewN m
theorem quiet_drawn2 {P : Program} {f : FuncId} {args : Array Value} {w : World} {d n : Nat} {v : Value}
    (h : Calls P f args (w.drewN (d + n)) fun e w' => e = .returned v ∧ Drawn (w.drewN (d + n)) w') : Calls P f args (w.drewN (d + n)) fun e w'' => e = .returned v ∧ ∃ m, w'' = w.drewN (d + m) :=
  h.mono fun _ _ ⟨he, m, hm⟩ => ⟨he, n + m, by rw [hm, World.drewN_drewN, Nat.add_assoc]⟩
set_option maxRecDepth 20000 in
set_option maxHeartbeats 2000000 in
theorem c_l03Is (gp op : Nat) (g : Option Addr) (cap n : Nat) (ls : List LayA) (v : Bool) (hv : vMod (ls.map LayA.p) = v) (w : World) (hq : w.cell? ⟨gp, op, none⟩ = some (.slice g n cap)) (h : LaysAt w g n cap ls) :
    Calls Try.prog 84 #[.pointer (some ⟨gp, op, none⟩)] w fun e w' => e = .returned (.bool v) ∧ Drawn w w' := by
  have hnm : n ≤ 9223372036854775807 := by have h1 := h.2.1; have h2 := h.2.2.1; unfold maxLen at h2; omega
  have hln : (ls.map LayA.p).length = n := by simpa using h.1
  have H := Lib.hid h
  have HV := Lib.hid hv
  have HN := Lib.hid hln
  by_cases h1 : 1 ≤ n
  case neg =>
    obtain rfl : n = 0 := by omega
    obtain rfl : v = false := by rw [← hv, vMod, hln]; rfl
    clear h hv hln h1
    go_enter Try.func84, Try.ntmps84
    go_wp2
    go_ret
    exact ⟨rfl, 0, rfl⟩
  case pos =>
  by_cases h6 : n ≤ 6
  case neg =>
    obtain rfl : v = false := by rw [← hv, vMod, hln]; simp [h6]
    have h6' : (7 : Int) ≤ (n : Int) := by omega
    have h1' : (1 : Int) ≤ (n : Int) := by omega
    clear h hv hln h1 h6
    go_enter Try.func84, Try.ntmps84
    go_wp2
    go_ret
    exact ⟨rfl, 0, rfl⟩
  case pos =>
  have h6' : (n : Int) ≤ 6 := by omega
  have h1' : (1 : Int) ≤ (n : Int) := by omega
  clear h hv hln h1 h6
  go_enter Try.func84, Try.ntmps84
  go_wp2
  go_loopw [4] (fun iv wr => IsRel (ls.map LayA.p) n w iv wr) (fun iv _ => n - (intOf iv).toNat)
  case atStart => exact ⟨0, 0, Nat.zero_le _, rfl, rfl, rfl⟩
  case round =>
    obtain ⟨j, d, hj, rfl, hok, rfl⟩ := hrel
    have HOK := Lib.hid hok
    clear hok
    by_cases hlt : j < n
    · obtain ⟨b, off, k, i, o, ws, bs, a0, c0, a1, c1, rfl, hbk, hx, q0, q1, q2, q3, q4, f0, f1⟩ := H.out.one hlt
      have hm0 : ws.length ≤ 9223372036854775807 := by have h1 := f0.1; have h2 := f0.2.1; unfold maxLen at h2; omega
      have hm1 : bs.length ≤ 9223372036854775807 := by have h1 := f1.1; have h2 := f1.2.1; unfold maxLen at h2; omega
      have HM0 := Lib.hid hm0
      have HM1 := Lib.hid hm1
      have hx' := at_map hx
      have HX := Lib.hid hx'
      have hlt' : (j : Int) < (n : Int) := by omega
      clear f0 f1 hx hm0 hm1 hx'
      cases hv1 : vLay k i o ws.length bs.length with
      | false =>
        have HV1 := Lib.hid hv1
        obtain rfl : v = false := by
          rw [← HV.out]
          exact vMod_no (testAt_no HX.out hv1) (by rw [HN.out]; exact hlt)
        clear hv1
        go_wp2_with fail
        go_quiet ((go_at_call 147; exact quiet_drawn2 (c_l03Layer _ _ k i o a0 a1 ws.length bs.length c0 c1 false HV1.out HM0.out HM1.out _ q0 q1 q2 q3 q4)))
        go_wp2
        go_ret
        exact ⟨rfl, by first | exact Drawn.mk _ _ | exact ⟨_, by rw [World.drewN_drewN]⟩⟩
      | true =>
        have HV1 := Lib.hid hv1
        cases j with
        | zero =>
          have HT := Lib.hid ((testAt_zero HX.out).trans hv1)
          clear hv1
          go_wp2_with fail
          go_quiet ((go_at_call 147; exact quiet_drawn2 (c_l03Layer _ _ k i o a0 a1 ws.length bs.length c0 c1 true HV1.out HM0.out HM1.out _ q0 q1 q2 q3 q4)))
          go_wp2
          go_roundw
          case rel => exact ⟨1, _, by omega, by go_num, by simp only [okUp, HT.out]; rfl, by first | rfl | rw [World.drewN_drewN]⟩
          case measure => simp [intOf]; omega
        | succ m =>
          obtain ⟨b', off', k', i', o', ws', bs', a0', c0', a1', c1', hgg, hbk', hx', r0, r1, r2, r3, r4, f0', f1'⟩ := H.out.one (i := m) (by omega)
          simp only [Option.some.injEq, Addr.mk.injEq, and_true] at hgg
          obtain ⟨rfl, rfl⟩ := hgg
          have ht := testAt_succ HX.out (at_map hx')
          rw [show vOne (⟨k, i, o, ws, bs⟩ : LayP) = true from hv1, Bool.true_and] at ht
          have HT := Lib.hid ht
          have hm0 : (0 : Int) ≤ (m : Int) := by omega
          clear hv1 ht f0' f1' hx' r0 r1 r3 r4 hbk'
          by_cases ho : o' = i
          · subst ho
            go_wp2_with fail
            go_quiet ((go_at_call 147; exact quiet_drawn2 (c_l03Layer _ _ k o' o a0 a1 ws.length bs.length c0 c1 true HV1.out HM0.out HM1.out _ q0 q1 q2 q3 q4)))
            go_wp2
            go_roundw
            case rel => exact ⟨m + 1 + 1, _, by omega, by go_num, by rw [okUp, HOK.out, HT.out]; simp, by first | rfl | rw [World.drewN_drewN]⟩
            case measure => simp [intOf]; omega
          · have ho' : (o' != i) = true := by simp [ho]
            obtain rfl : v = false := by
              rw [← HV.out]
              exact vMod_no (by rw [HT.out]; simp [ho]) (by rw [HN.out]; exact hlt)
            clear ho
            go_wp2_with fail
            go_quiet ((go_at_call 147; exact quiet_drawn2 (c_l03Layer _ _ k i o a0 a1 ws.length bs.length c0 c1 true HV1.out HM0.out HM1.out _ q0 q1 q2 q3 q4)))
            go_wp2
            go_ret
            exact ⟨rfl, by first | exact Drawn.mk _ _ | exact ⟨_, by rw [World.drewN_drewN]⟩⟩
    · obtain rfl : j = n := by omega
      obtain rfl : v = true := by
        rw [← HV.out, vMod, HN.out, HOK.out]
        simp; omega
      go_wp2
      go_ret
      exact ⟨rfl, Drawn.mk _ _⟩
def IsRel2 (ps : List LayP) (n : Nat) (w : World) (g : Option Addr) (cap : Nat) (iv : Value) (wr : World) : Prop := ∃ j : Nat, j ≤ n ∧ iv = .int .i64 j ∧ okUp ps j = true ∧ Below w.heap.size w wr ∧ Blk wr w.heap.size 46 #[.slice g n cap]
set_option maxRecDepth 20000 in
set_option maxHeartbeats 4000000 in
theorem c_iValidModel (g : Option Addr) (cap n : Nat) (ls : List LayA) (v : Bool) (hv : vMod (ls.map LayA.p) = v) (w : World) (h : LaysAt w g n cap ls) :
    Calls Try.prog 89 #[.agg #[.slice g n cap]] w fun e w' => e = .returned (.bool v) ∧ Below w.heap.size w w' := by
  have hnm : n ≤ 9223372036854775807 := by have h1 := h.2.1; have h2 := h.2.2.1; unfold maxLen at h2; omega
  have hln : (ls.map LayA.p).length = n := by simpa using h.1
  have H := Lib.hid h
  have HV := Lib.hid hv
  have HN := Lib.hid hln
  by_cases h1 : 1 ≤ n
  case neg =>
    obtain rfl : n = 0 := by omega
    obtain rfl : v = false := by rw [← hv, vMod, hln]; rfl
    clear h hv hln h1
    go_enter Try.func89, Try.ntmps89
    go_wp2
    go_ret
    exact ⟨rfl, (Below.refl _ _).alloc (Nat.le_refl _) _⟩
  case pos =>
  by_cases h6 : n ≤ 6
  case neg =>
    obtain rfl : v = false := by rw [← hv, vMod, hln]; simp [h6]
    have h6' : (7 : Int) ≤ (n : Int) := by omega
    have h1' : (1 : Int) ≤ (n : Int) := by omega
    clear h hv hln h1 h6
    go_enter Try.func89, Try.ntmps89
    go_wp2
    go_ret
    exact ⟨rfl, (Below.refl _ _).alloc (Nat.le_refl _) _⟩
  case pos =>
  have h6' : (n : Int) ≤ 6 := by omega
  have h1' : (1 : Int) ≤ (n : Int) := by omega
  have b0 := Lib.hid ((Below.refl w.heap.size w).alloc (Nat.le_refl _) (.cells #[.slice g n cap] 46))
  have k0 := Lib.hid (Blk.new w 46 #[.slice g n cap])
  clear h hv hln h1 h6
  go_enter Try.func89, Try.ntmps89
  go_wp2
  go_loopw [18] (fun iv wr => IsRel2 (ls.map LayA.p) n w g cap iv wr) (fun iv _ => n - (intOf iv).toNat)
  case atStart => exact ⟨0, Nat.zero_le _, rfl, rfl, b0.out, k0.out⟩
  case round =>
    obtain ⟨j, hj, rfl, hok, hb, km⟩ := hrel
    have HOK := Lib.hid hok
    have HB := Lib.hid hb
    have KM := Lib.hid km
    clear hok hb km
    by_cases hlt : j < n
    · obtain ⟨b, off, k, i, o, ws, bs, a0, c0, a1, c1, rfl, hbk, hx, q0, q1, q2, q3, q4, f0, f1⟩ := (H.out.kept HB.out).one hlt
      have hx' := at_map hx
      have HX := Lib.hid hx'
      have hlt' : (j : Int) < (n : Int) := by omega
      clear f0 f1 hx hx'
      cases hv1 : vLay k i o ws.length bs.length with
      | false =>
        have HV1 := Lib.hid hv1
        obtain rfl : v = false := by
          rw [← HV.out]
          exact vMod_no (testAt_no HX.out hv1) (by rw [HN.out]; exact hlt)
        clear hv1
        go_wp2_with fail
        have kb := Blk.new wr 113 #[.int .i64 k, .int .i64 i, .int .i64 o, .slice a0 ws.length c0, .slice a1 bs.length c1]
        have bal := (Below.refl wr.heap.size wr).alloc (Nat.le_refl _) (.cells #[.int .i64 k, .int .i64 i, .int .i64 o, .slice a0 ws.length c0, .slice a1 bs.length c1] 113)
        have HBA := Lib.hid (HB.out.trans (bal.mono HB.out.size))
        have kma := KM.out.below bal
        have HKM := Lib.hid kma
        clear bal
        generalize wr.alloc (.cells #[.int .i64 k, .int .i64 i, .int .i64 o, .slice a0 ws.length c0, .slice a1 bs.length c1] 113) = wa at kb HBA HKM kma ⊢
        obtain ⟨p0, p1, p2, p3, p4, pl⟩ := kb.laybox
        have km0 := kma.cell 0
        simp only [List.getElem?_toArray, List.getElem?_cons_zero] at km0
        have e0 := cell_regrown p0
        have e1 := cell_regrown p1
        have e2 := cell_regrown p2
        have e3 := cell_regrown p3
        have e4 := cell_regrown p4
        have e5 := cell_regrown km0
        clear kb kma p0 p1 p2 p3 p4 km0
        refine wp_region_quiet_below (by kernel_rfl) (by kernel_rfl) ?_
        repeat (go_big_quiet_step ((go_at_call 153; exact Calls.regrown_of (c_iValidLayer k i o a0 a1 ws.length bs.length c0 c1 false HV1.out _))))
        refine wpQuiet_nil ?_
        intro _ hw'
        obtain ⟨⟨dq, osq⟩, hw''⟩ := hw'
        subst hw''
        have hb2 := below_regrown wa dq osq
        have HB2 := Lib.hid (HBA.out.trans (hb2.mono HBA.out.size))
        have KM2 := Lib.hid (HKM.out.below hb2)
        clear e0 e1 e2 e3 e4 e5 
        generalize grow (redrawn wa dq) osq = w2 at hb2 HB2 KM2 ⊢
        clear hb2
        go_wp2_with fail
        go_ret
        exact ⟨rfl, HB2.out⟩
      | true =>
        have HV1 := Lib.hid hv1
        cases j with
        | zero =>
          have HT := Lib.hid ((testAt_zero HX.out).trans hv1)
          simp only [Nat.zero_mul, Nat.add_zero] at q0 q1 q2 q3 q4
          clear hv1
          go_wp2_with fail
          have kb := Blk.new wr 113 #[.int .i64 k, .int .i64 i, .int .i64 o, .slice a0 ws.length c0, .slice a1 bs.length c1]
          have bal := (Below.refl wr.heap.size wr).alloc (Nat.le_refl _) (.cells #[.int .i64 k, .int .i64 i, .int .i64 o, .slice a0 ws.length c0, .slice a1 bs.length c1] 113)
          have HBA := Lib.hid (HB.out.trans (bal.mono HB.out.size))
          have kma := KM.out.below bal
          have HKM := Lib.hid kma
          clear bal
          generalize wr.alloc (.cells #[.int .i64 k, .int .i64 i, .int .i64 o, .slice a0 ws.length c0, .slice a1 bs.length c1] 113) = wa at kb HBA HKM kma ⊢
          obtain ⟨p0, p1, p2, p3, p4, pl⟩ := kb.laybox
          have km0 := kma.cell 0
          simp only [List.getElem?_toArray, List.getElem?_cons_zero] at km0
          have e0 := cell_regrown p0
          have e1 := cell_regrown p1
          have e2 := cell_regrown p2
          have e3 := cell_regrown p3
          have e4 := cell_regrown p4
          have e5 := cell_regrown km0
          clear kb kma p0 p1 p2 p3 p4 km0
          refine wp_region_quiet_below (by kernel_rfl) (by kernel_rfl) ?_
          repeat (go_big_quiet_step ((go_at_call 153; exact Calls.regrown_of (c_iValidLayer k i o a0 a1 ws.length bs.length c0 c1 true HV1.out _))))
          refine wpQuiet_nil ?_
          intro _ hw'
          obtain ⟨⟨dq, osq⟩, hw''⟩ := hw'
          subst hw''
          have hb2 := below_regrown wa dq osq
          have HB2 := Lib.hid (HBA.out.trans (hb2.mono HBA.out.size))
          have KM2 := Lib.hid (HKM.out.below hb2)
          clear e0 e1 e2 e3 e4 e5 
          generalize grow (redrawn wa dq) osq = w2 at hb2 HB2 KM2 ⊢
          clear hb2
          go_wp2_with fail
          go_roundw
          case rel => exact ⟨1, by omega, by go_num, by simp only [okUp, HT.out]; rfl, HB2.out, KM2.out⟩
          case measure => simp [intOf]; omega
        | succ m =>
          obtain ⟨b', off', k', i', o', ws', bs', a0', c0', a1', c1', hgg, hbk', hx', r0, r1, r2, r3, r4, f0', f1'⟩ := (H.out.kept HB.out).one (i := m) (by omega)
          simp only [Option.some.injEq, Addr.mk.injEq, and_true] at hgg
          obtain ⟨rfl, rfl⟩ := hgg
          have ht := testAt_succ HX.out (at_map hx')
          rw [show vOne (⟨k, i, o, ws, bs⟩ : LayP) = true from hv1, Bool.true_and] at ht
          have HT := Lib.hid ht
          have hm0 : (0 : Int) ≤ (m : Int) := by omega
          have hmn : (m : Int) < (n : Int) := by omega
          clear hv1 ht f0' f1' hx' r0 r1 r3 r4 hbk'
          by_cases ho : o' = i
          · subst ho
            go_wp2_with fail
            have kb := Blk.new wr 113 #[.int .i64 k, .int .i64 o', .int .i64 o, .slice a0 ws.length c0, .slice a1 bs.length c1]
            have bal := (Below.refl wr.heap.size wr).alloc (Nat.le_refl _) (.cells #[.int .i64 k, .int .i64 o', .int .i64 o, .slice a0 ws.length c0, .slice a1 bs.length c1] 113)
            have HBA := Lib.hid (HB.out.trans (bal.mono HB.out.size))
            have kma := KM.out.below bal
            have rm2 := (bal.cell (p := ⟨b, off + m * 5 + 2, none⟩) hbk).trans r2
            have HKM := Lib.hid kma
            clear bal
            generalize wr.alloc (.cells #[.int .i64 k, .int .i64 o', .int .i64 o, .slice a0 ws.length c0, .slice a1 bs.length c1] 113) = wa at kb HBA HKM kma rm2 ⊢
            obtain ⟨p0, p1, p2, p3, p4, pl⟩ := kb.laybox
            have km0 := kma.cell 0
            simp only [List.getElem?_toArray, List.getElem?_cons_zero] at km0
            have e0 := cell_regrown p0
            have e1 := cell_regrown p1
            have e2 := cell_regrown p2
            have e3 := cell_regrown p3
            have e4 := cell_regrown p4
            have e5 := cell_regrown km0
            have e6 := cell_regrown rm2
            clear rm2
            clear kb kma p0 p1 p2 p3 p4 km0
            refine wp_region_quiet_below (by kernel_rfl) (by kernel_rfl) ?_
            repeat (go_big_quiet_step ((go_at_call 153; exact Calls.regrown_of (c_iValidLayer k o' o a0 a1 ws.length bs.length c0 c1 true HV1.out _))))
            refine wpQuiet_nil ?_
            intro _ hw'
            obtain ⟨⟨dq, osq⟩, hw''⟩ := hw'
            subst hw''
            have hb2 := below_regrown wa dq osq
            have HB2 := Lib.hid (HBA.out.trans (hb2.mono HBA.out.size))
            have KM2 := Lib.hid (HKM.out.below hb2)
            clear e0 e1 e2 e3 e4 e5 e6
            generalize grow (redrawn wa dq) osq = w2 at hb2 HB2 KM2 ⊢
            clear hb2
            go_wp2_with fail
            go_roundw
            case rel => exact ⟨m + 1 + 1, by omega, by go_num, by rw [okUp, HOK.out, HT.out]; simp, HB2.out, KM2.out⟩
            case measure => simp [intOf]; omega
          · have ho' : (o' != i) = true := by simp [ho]
            obtain rfl : v = false := by
              rw [← HV.out]
              exact vMod_no (by rw [HT.out]; simp [ho]) (by rw [HN.out]; exact hlt)
            clear ho
            go_wp2_with fail
            have kb := Blk.new wr 113 #[.int .i64 k, .int .i64 i, .int .i64 o, .slice a0 ws.length c0, .slice a1 bs.length c1]
            have bal := (Below.refl wr.heap.size wr).alloc (Nat.le_refl _) (.cells #[.int .i64 k, .int .i64 i, .int .i64 o, .slice a0 ws.length c0, .slice a1 bs.length c1] 113)
            have HBA := Lib.hid (HB.out.trans (bal.mono HB.out.size))
            have kma := KM.out.below bal
            have rm2 := (bal.cell (p := ⟨b, off + m * 5 + 2, none⟩) hbk).trans r2
            have HKM := Lib.hid kma
            clear bal
            generalize wr.alloc (.cells #[.int .i64 k, .int .i64 i, .int .i64 o, .slice a0 ws.length c0, .slice a1 bs.length c1] 113) = wa at kb HBA HKM kma rm2 ⊢
            obtain ⟨p0, p1, p2, p3, p4, pl⟩ := kb.laybox
            have km0 := kma.cell 0
            simp only [List.getElem?_toArray, List.getElem?_cons_zero] at km0
            have e0 := cell_regrown p0
            have e1 := cell_regrown p1
            have e2 := cell_regrown p2
            have e3 := cell_regrown p3
            have e4 := cell_regrown p4
            have e5 := cell_regrown km0
            have e6 := cell_regrown rm2
            clear rm2
            clear kb kma p0 p1 p2 p3 p4 km0
            refine wp_region_quiet_below (by kernel_rfl) (by kernel_rfl) ?_
            repeat (go_big_quiet_step ((go_at_call 153; exact Calls.regrown_of (c_iValidLayer k i o a0 a1 ws.length bs.length c0 c1 true HV1.out _))))
            refine wpQuiet_nil ?_
            intro _ hw'
            obtain ⟨⟨dq, osq⟩, hw''⟩ := hw'
            subst hw''
            have hb2 := below_regrown wa dq osq
            have HB2 := Lib.hid (HBA.out.trans (hb2.mono HBA.out.size))
            have KM2 := Lib.hid (HKM.out.below hb2)
            clear e0 e1 e2 e3 e4 e5 e6
            generalize grow (redrawn wa dq) osq = w2 at hb2 HB2 KM2 ⊢
            clear hb2
            go_wp2_with fail
            go_ret
            exact ⟨rfl, HB2.out⟩
    · obtain rfl : j = n := by omega
      obtain rfl : v = true := by
        rw [← HV.out, vMod, HN.out, HOK.out]
        simp; omega
      go_wp2
      go_ret
      exact ⟨rfl, HB.out⟩
end Go.Proofs.Ytaipegkkpkagnaa
