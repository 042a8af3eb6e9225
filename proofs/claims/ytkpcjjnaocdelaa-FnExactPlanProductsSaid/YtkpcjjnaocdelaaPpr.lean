/-
  How much room and how many products a plan needs: what the model and the program answer. Conditions: the cells can be read, and there are at most 1048576 steps.
-/
import Derived.Test.YtkpcjjnaocdelaaPvt
namespace Go.Proofs.Ytkpcjjnaocdelaa
open Go.RowKit Go.Sort Go.Deep Go.WideShapes Go.ChangeShapes
set_option linter.unusedVariables false
set_option linter.unusedSimpArgs false

theorem testAt_one {ps : List LayP} {j : Nat} {p : LayP} (h : ps[j]? = some p) (ht : testAt ps j = true) : vOne p = true := by
  cases hv : vOne p with
  | true => rfl
  | false => rw [testAt_no h hv] at ht; exact ht
theorem okUp_at {ps : List LayP} {n : Nat} (h : okUp ps n = true) {j : Nat} (hj : j < n) : testAt ps j = true := by
  cases ht : testAt ps j with
  | true => rfl
  | false => rw [okUp_no ht n hj] at h; exact h
theorem vPln_at {ps : List PstP} (h : vPln ps = true) {j : Nat} {p : PstP} (hx : ps[j]? = some p) : vOne p.lay = true ∧ pEnd p = true ∧ ps.length ≤ 6 := by
  have hj : j < ps.length := (List.getElem?_eq_some_iff.1 hx).1
  unfold vPln at h
  rw [decide_eq_false (by omega), Bool.false_or, Bool.and_eq_true] at h
  obtain ⟨h1, h2⟩ := h
  unfold vMod at h1
  simp only [Bool.and_eq_true, decide_eq_true_eq, List.length_map] at h1
  refine ⟨testAt_one (ps := ps.map PstP.lay) (j := j) (by simp [hx]) (okUp_at h1.2 (by simpa using hj)), ?_, h1.1.2⟩
  rw [List.all_eq_true] at h2
  exact h2 p (List.mem_of_getElem? hx)
theorem step_sizes {p : PstP} (h : vOne p.lay = true) : (1 ≤ p.ii ∧ p.ii ≤ 8) ∧ (1 ≤ p.oo ∧ p.oo ≤ 8) ∧ (0 ≤ p.kd ∧ p.kd ≤ 5) ∧ ((p.ws.length : Int) = (countsOf p.kd p.ii p.oo).1) ∧ ((p.bs.length : Int) = (countsOf p.kd p.ii p.oo).2) ∧ (p.kd = 0 ∨ p.ii = p.oo) := by
  obtain ⟨h1, h2, h3, h4, h5, h6⟩ := (vLay_iff _ _ _ _ _).1 h
  exact ⟨h2, h3, h1, h5, h6, h4⟩
def roomU (ps : List PstP) : Nat → Int
  | 0 => 0
  | k + 1 => match ps[k]? with
    | some p => max (roomU ps k) (p.ii + p.oo)
    | none => roomU ps k
theorem roomU_succ {ps : List PstP} {k : Nat} {p : PstP} (h : ps[k]? = some p) : roomU ps (k + 1) = max (roomU ps k) (p.ii + p.oo) := by simp [roomU, h]
theorem roomU_le {ps : List PstP} (h : vPln ps = true) (k : Nat) : 0 ≤ roomU ps k ∧ roomU ps k ≤ 16 := by
  induction k with
  | zero => simp [roomU]
  | succ k ih =>
    cases hx : ps[k]? with
    | none => simpa [roomU, hx] using ih
    | some p =>
      rw [roomU_succ hx]
      have := step_sizes (vPln_at h hx).1
      omega
def vPlanRoom (ps : List PstP) : Int × Bool := if vPln ps then (roomU ps ps.length, true) else (0, false)
/-- a number and a place, and the plan's box -/
def RoomRel (f : Nat → Int) (n : Nat) (g : Option Addr) (c : Nat) (w : World) (mv iv : Value) (wr : World) : Prop :=
  ∃ j : Nat, j ≤ n ∧ iv = .int .i64 j ∧ mv = .int .i64 (f j) ∧ Blk wr w.heap.size 29 #[.slice g n c] ∧ Below w.heap.size w wr
theorem c_l00Max (a b : Int) (w : World) : Calls Try.prog 76 #[.int .i64 a, .int .i64 b] w fun e w' => e = .returned (.int .i64 (max a b)) ∧ w = w' := by
  by_cases h : b < a
  · have h' : (a > b) := h
    obtain ⟨m, hm⟩ : ∃ m, max a b = m := ⟨_, rfl⟩
    have HM := Lib.hid (show m = a by omega)
    rw [hm]
    clear h' hm
    go_enter Try.func76, Try.ntmps76
    go_wp2
    go_ret
    exact ⟨ret_i HM.out.symm, rfl⟩
  · have h' : a ≤ b := by omega
    obtain ⟨m, hm⟩ : ∃ m, max a b = m := ⟨_, rfl⟩
    have HM := Lib.hid (show m = b by omega)
    rw [hm]
    clear h hm
    go_enter Try.func76, Try.ntmps76
    go_wp2
    go_ret
    exact ⟨ret_i HM.out.symm, rfl⟩
set_option maxRecDepth 20000 in
set_option maxHeartbeats 4000000 in
theorem t_sPlanRoom (ps : List PstP) (n : Nat) (g : Option Addr) (c : Nat) (y : List PstA) (w : World) (hp : y.map PstA.p = ps) (h : PstsAt w g n c y) (hn : n ≤ 1048576) :
    Calls Try.prog 34 #[.agg #[.slice g n c]] w (RetNb (vPlanRoom ps).1 (vPlanRoom ps).2 w) := by
  have hln : y.length = n := h.1
  have hlp : ps.length = n := by rw [← hp, List.length_map]; exact hln
  have al := (Below.refl w.heap.size w).alloc (Nat.le_refl _) (.cells #[.slice g n c] 29)
  have K := Lib.hid (Blk.new w 29 #[.slice g n c])
  have B := Lib.hid al
  have H := Lib.hid (h.kept al)
  have HW := Lib.hid h
  have HP := Lib.hid hp
  have HL := Lib.hid hlp
  cases hv : vPln ps with
  | false =>
    have HV := Lib.hid hv
    rw [show vPlanRoom ps = (0, false) by simp [vPlanRoom, hv]]
    clear al h hp hv hln hlp
    go_enter Try.func34, Try.ntmps34
    go_wp2_with fail
    generalize w.alloc (.cells #[.slice g n c] 29) = w1 at K B H ⊢
    obtain ⟨p0, pl⟩ := tb1 K.out
    refine (c_l09Is w.heap.size 0 g c n y false (by rw [HP.out]; exact HV.out) w1 pl p0 H.out).mono ?_
    clear p0 pl
    rintro e w2 ⟨rfl, bl⟩
    have B2 := Lib.hid (Below.next B.out bl)
    clear bl
    go_wp2_with fail
    go_ret2
    exact ⟨rfl, B2.out⟩
  | true =>
    have HV := Lib.hid hv
    rw [show vPlanRoom ps = (roomU ps ps.length, true) by simp [vPlanRoom, hv]]
    dsimp only
    obtain ⟨x, hx⟩ : ∃ x, roomU ps ps.length = x := ⟨_, rfl⟩
    rw [hx]
    have HX := Lib.hid hx
    clear al h hp hv hln hlp hx
    go_enter Try.func34, Try.ntmps34
    go_wp2_with fail
    generalize w.alloc (.cells #[.slice g n c] 29) = w1 at K B H ⊢
    obtain ⟨p0, pl⟩ := tb1 K.out
    refine (c_l09Is w.heap.size 0 g c n y true (by rw [HP.out]; exact HV.out) w1 pl p0 H.out).mono ?_
    clear p0 pl
    rintro e w2 ⟨rfl, bl⟩
    have K2 := Lib.hid (K.out.below bl)
    have B2 := Lib.hid (Below.next B.out bl)
    clear bl
    go_wp2_with fail
    go_loopw [4, 5] (fun mv iv wr => RoomRel (roomU ps) n g c w mv iv wr) (fun _ iv _ => n - (intOf iv).toNat)
    case atStart => exact ⟨0, Nat.zero_le _, rfl, rfl, K2.out, B2.out⟩
    case round =>
      obtain ⟨j, hj, rfl, rfl, hk, hb⟩ := hrel
      have K3 := Lib.hid hk
      have B3 := Lib.hid hb
      obtain ⟨p0, pl⟩ := tb1 hk
      obtain ⟨m, hm⟩ : ∃ m, roomU ps j = m := ⟨_, rfl⟩
      have HM := Lib.hid hm
      rw [hm]
      clear hk hb hm
      by_cases hlt : j < n
      · obtain ⟨b, off, k, i, o, ws, bs, ss, rl, a0, c0, a1, c1, a2, c2, rfl, hbk, hx, q0, q1, q2, q3, q4, q5, q6, f0, f1, f2⟩ := (HW.out.kept B3.out).one hlt
        have hx' := pst_map hx
        rw [HP.out] at hx'
        have hz := step_sizes (vPln_at HV.out hx').1
        have hen := (vPln_at HV.out hx').2.1
        dsimp only at hz
        obtain ⟨i1, i8⟩ := hz.1
        obtain ⟨o1, o8⟩ := hz.2.1
        have HS := Lib.hid (roomU_succ hx')
        have hlt' : (j : Int) < (n : Int) := by omega
        have hj0 : (0 : Int) ≤ (j : Int) := by omega
        clear f0 f1 f2 hx hx' hz hen q0 q3 q4 q5 q6 pl
        go_wp2_with fail
        go_quiet ((go_at_call 76; exact Calls.quiet_of_same ((c_l00Max m (i + o) _).mono fun _ _ h => ⟨h.1, h.2.symm⟩)))
        rename_i nq
        have K4 := Lib.hid (K3.out.below (below_drewN (Below.refl _ _) nq))
        have B4 := Lib.hid (below_drewN B3.out nq)
        generalize wr.drewN nq = w4 at K4 B4 ⊢
        clear q1 q2 p0 i1 i8 o1 o8
        obtain ⟨p0, pl⟩ := tb1 K4.out
        go_wp2_with fail
        go_roundw
        case rel => exact ⟨j + 1, by omega, by go_num, by rw [HS.out, HM.out], K4.out, B4.out⟩
        case measure => simp [intOf]; omega
      · obtain rfl : j = n := by omega
        go_wp2_with fail
        go_ret2
        refine ⟨?_, B3.out⟩
        have h1 := HX.out
        rw [HL.out, HM.out] at h1
        rw [h1]
        rfl
set_option maxRecDepth 20000 in
set_option maxHeartbeats 4000000 in
theorem t_iPlanRoom (ps : List PstP) (n : Nat) (g : Option Addr) (c : Nat) (y : List PstA) (w : World) (hp : y.map PstA.p = ps) (h : PstsAt w g n c y) (hn : n ≤ 1048576) :
    Calls Try.prog 35 #[.agg #[.slice g n c]] w (RetNb (vPlanRoom ps).1 (vPlanRoom ps).2 w) := by
  have hln : y.length = n := h.1
  have hlp : ps.length = n := by rw [← hp, List.length_map]; exact hln
  have al := (Below.refl w.heap.size w).alloc (Nat.le_refl _) (.cells #[.slice g n c] 29)
  have K := Lib.hid (Blk.new w 29 #[.slice g n c])
  have B := Lib.hid al
  have H := Lib.hid (h.kept al)
  have HW := Lib.hid h
  have HP := Lib.hid hp
  have HL := Lib.hid hlp
  cases hv : vPln ps with
  | false =>
    have HV := Lib.hid hv
    rw [show vPlanRoom ps = (0, false) by simp [vPlanRoom, hv]]
    clear al h hp hv hln hlp
    go_enter Try.func35, Try.ntmps35
    go_wp2_with fail
    generalize w.alloc (.cells #[.slice g n c] 29) = w1 at K B H ⊢
    refine (c_iValidPlan g c n y false (by rw [HP.out]; exact HV.out) w1 H.out hn).mono ?_
    rintro e w2 ⟨rfl, bl⟩
    have B2 := Lib.hid (Below.next B.out bl)
    clear bl
    go_wp2_with fail
    go_ret2
    exact ⟨rfl, B2.out⟩
  | true =>
    have HV := Lib.hid hv
    rw [show vPlanRoom ps = (roomU ps ps.length, true) by simp [vPlanRoom, hv]]
    dsimp only
    obtain ⟨x, hx⟩ : ∃ x, roomU ps ps.length = x := ⟨_, rfl⟩
    rw [hx]
    have HX := Lib.hid hx
    clear al h hp hv hln hlp hx
    go_enter Try.func35, Try.ntmps35
    go_wp2_with fail
    generalize w.alloc (.cells #[.slice g n c] 29) = w1 at K B H ⊢
    refine (c_iValidPlan g c n y true (by rw [HP.out]; exact HV.out) w1 H.out hn).mono ?_
    rintro e w2 ⟨rfl, bl⟩
    have K2 := Lib.hid (K.out.below bl)
    have B2 := Lib.hid (Below.next B.out bl)
    clear bl
    obtain ⟨p0, pl⟩ := tb1 K2.out
    go_wp2_with fail
    go_loopw [4, 13] (fun mv iv wr => RoomRel (roomU ps) n g c w mv iv wr) (fun _ iv _ => n - (intOf iv).toNat)
    case atStart => exact ⟨0, Nat.zero_le _, rfl, rfl, K2.out, B2.out⟩
    case round =>
      obtain ⟨j, hj, rfl, rfl, hk, hb⟩ := hrel
      have K3 := Lib.hid hk
      have B3 := Lib.hid hb
      obtain ⟨p0, pl⟩ := tb1 hk
      obtain ⟨m, hm⟩ : ∃ m, roomU ps j = m := ⟨_, rfl⟩
      have HM := Lib.hid hm
      rw [hm]
      clear hk hb hm
      by_cases hlt : j < n
      · obtain ⟨b, off, k, i, o, ws, bs, ss, rl, a0, c0, a1, c1, a2, c2, rfl, hbk, hx, q0, q1, q2, q3, q4, q5, q6, f0, f1, f2⟩ := (HW.out.kept B3.out).one hlt
        have hx' := pst_map hx
        rw [HP.out] at hx'
        have hz := step_sizes (vPln_at HV.out hx').1
        have hen := (vPln_at HV.out hx').2.1
        dsimp only at hz
        obtain ⟨i1, i8⟩ := hz.1
        obtain ⟨o1, o8⟩ := hz.2.1
        have HS := Lib.hid (roomU_succ hx')
        have hlt' : (j : Int) < (n : Int) := by omega
        have hj0 : (0 : Int) ≤ (j : Int) := by omega
        have bal := (Below.refl wr.heap.size wr).alloc (Nat.le_refl _) (.cells #[.int .i64 k, .int .i64 i, .int .i64 o, .slice a0 ws.length c0, .slice a1 bs.length c1, .slice a2 ss.length c2, .bool rl] 83)
        have B4 := Lib.hid (Below.next B3.out bal)
        have K4 := Lib.hid (K3.out.below bal)
        clear f0 f1 f2 hx hx' hz hen bal
        go_wp2_with fail
        go_roundw
        case rel => exact ⟨j + 1, by omega, by go_num, by rw [HS.out, HM.out]; dsimp only; congr 1; split <;> omega, K4.out, B4.out⟩
        case measure => simp [intOf]; omega
      · obtain rfl : j = n := by omega
        go_wp2_with fail
        go_ret2
        refine ⟨?_, B3.out⟩
        have h1 := HX.out
        rw [HL.out, HM.out] at h1
        rw [h1]
        rfl
def prodU (ps : List PstP) : Nat → Int
  | 0 => 0
  | k + 1 => match ps[k]? with
    | some p => prodU ps k + ((p.ws.length : Int) + (p.ss.length : Int))
    | none => prodU ps k
theorem prodU_succ {ps : List PstP} {k : Nat} {p : PstP} (h : ps[k]? = some p) : prodU ps (k + 1) = prodU ps k + ((p.ws.length : Int) + (p.ss.length : Int)) := by simp [prodU, h]
theorem prod_step {p : PstP} (h : vOne p.lay = true) (he : pEnd p = true) : (p.ws.length : Int) ≤ 64 ∧ (p.ss.length : Int) ≤ 8 := by
  obtain ⟨⟨i1, i8⟩, ⟨o1, o8⟩, ⟨k0, k5⟩, hw, hb, hk⟩ := step_sizes h
  have hm := mul_sz o1 o8 i1 i8
  refine ⟨?_, ?_⟩
  · rw [hw]
    unfold countsOf
    split
    · exact hm.2
    · split
      · dsimp only; omega
      · split <;> dsimp only <;> omega
  · unfold pEnd pEndB at he
    cases hr : p.rl with
    | true => rw [hr] at he; simp at he; rw [he.2]; decide
    | false => rw [hr] at he; simp at he; rcases he with h0 | h0 <;> first | (rw [h0]; decide) | omega
theorem prodU_le {ps : List PstP} (h : vPln ps = true) (k : Nat) : 0 ≤ prodU ps k ∧ prodU ps k ≤ 72 * k := by
  induction k with
  | zero => simp [prodU]
  | succ k ih =>
    cases hx : ps[k]? with
    | none => simp only [prodU, hx]; omega
    | some p =>
      rw [prodU_succ hx]
      have := vPln_at h hx
      have := prod_step this.1 this.2.1
      omega
/-- what a step of a kind adds -/
theorem prod_kind {p : PstP} (h : vOne p.lay = true) (he : pEnd p = true) : (p.ws.length : Int) + (p.ss.length : Int) = if p.kd = 0 then p.ii * p.oo + (p.ss.length : Int) else if p.kd = 2 then p.ii else if p.kd = 5 then p.ii else 0 := by
  obtain ⟨⟨i1, i8⟩, ⟨o1, o8⟩, ⟨k0, k5⟩, hw, hb, hk⟩ := step_sizes h
  have hs : p.kd ≠ 0 → p.ss.length = 0 := by
    intro hk
    unfold pEnd pEndB at he
    cases hr : p.rl with
    | true => rw [hr] at he; simp at he; exact (hk he.1).elim
    | false => rw [hr] at he; simp at he; rcases he with h0 | h0 <;> first | exact (hk h0.1).elim | simpa using h0
  rw [hw]
  unfold countsOf
  by_cases h0 : p.kd = 0
  · simp only [h0, if_true]; rw [Int.mul_comm]
  · rw [hs h0]
    simp only [h0, if_false]
    split
    · simp
    · split <;> simp
def vPlanProducts (ps : List PstP) : Int × Bool := if vPln ps then (prodU ps ps.length, true) else (0, false)
set_option maxRecDepth 20000 in
set_option maxHeartbeats 4000000 in
theorem t_sPlanProducts (ps : List PstP) (n : Nat) (g : Option Addr) (c : Nat) (y : List PstA) (w : World) (hp : y.map PstA.p = ps) (h : PstsAt w g n c y) (hn : n ≤ 1048576) :
    Calls Try.prog 32 #[.agg #[.slice g n c]] w (RetNb (vPlanProducts ps).1 (vPlanProducts ps).2 w) := by
  have hln : y.length = n := h.1
  have hlp : ps.length = n := by rw [← hp, List.length_map]; exact hln
  have al := (Below.refl w.heap.size w).alloc (Nat.le_refl _) (.cells #[.slice g n c] 29)
  have K := Lib.hid (Blk.new w 29 #[.slice g n c])
  have B := Lib.hid al
  have H := Lib.hid (h.kept al)
  have HW := Lib.hid h
  have HP := Lib.hid hp
  have HL := Lib.hid hlp
  cases hv : vPln ps with
  | false =>
    have HV := Lib.hid hv
    rw [show vPlanProducts ps = (0, false) by simp [vPlanProducts, hv]]
    clear al h hp hv hln hlp
    go_enter Try.func32, Try.ntmps32
    go_wp2_with fail
    generalize w.alloc (.cells #[.slice g n c] 29) = w1 at K B H ⊢
    obtain ⟨p0, pl⟩ := tb1 K.out
    refine (c_l09Is w.heap.size 0 g c n y false (by rw [HP.out]; exact HV.out) w1 pl p0 H.out).mono ?_
    clear p0 pl
    rintro e w2 ⟨rfl, bl⟩
    have B2 := Lib.hid (Below.next B.out bl)
    clear bl
    go_wp2_with fail
    go_ret2
    exact ⟨rfl, B2.out⟩
  | true =>
    have HV := Lib.hid hv
    rw [show vPlanProducts ps = (prodU ps ps.length, true) by simp [vPlanProducts, hv]]
    dsimp only
    obtain ⟨x, hx⟩ : ∃ x, prodU ps ps.length = x := ⟨_, rfl⟩
    rw [hx]
    have HX := Lib.hid hx
    clear al h hp hv hln hlp hx
    go_enter Try.func32, Try.ntmps32
    go_wp2_with fail
    generalize w.alloc (.cells #[.slice g n c] 29) = w1 at K B H ⊢
    obtain ⟨p0, pl⟩ := tb1 K.out
    refine (c_l09Is w.heap.size 0 g c n y true (by rw [HP.out]; exact HV.out) w1 pl p0 H.out).mono ?_
    clear p0 pl
    rintro e w2 ⟨rfl, bl⟩
    have K2 := Lib.hid (K.out.below bl)
    have B2 := Lib.hid (Below.next B.out bl)
    clear bl
    go_wp2_with fail
    go_loopw [4, 5] (fun mv iv wr => RoomRel (prodU ps) n g c w mv iv wr) (fun _ iv _ => n - (intOf iv).toNat)
    case atStart => exact ⟨0, Nat.zero_le _, rfl, rfl, K2.out, B2.out⟩
    case round =>
      obtain ⟨j, hj, rfl, rfl, hk, hb⟩ := hrel
      have K3 := Lib.hid hk
      have B3 := Lib.hid hb
      obtain ⟨p0, pl⟩ := tb1 hk
      obtain ⟨m, hm⟩ : ∃ m, prodU ps j = m := ⟨_, rfl⟩
      have HM := Lib.hid hm
      rw [hm]
      have hj6 : n ≤ 6 ∨ n = 0 := by
        by_cases h0 : n = 0
        · exact .inr h0
        · have hl := HL.out
          exact .inl (by rw [← hl]; exact (vPln_at (p := ps[0]'(by omega)) (j := 0) HV.out (by simp)).2.2)
      have hmb := prodU_le HV.out j
      rw [hm] at hmb
      have m1 : (0 : Int) ≤ m := hmb.1
      have m2 : m ≤ 432 := by omega
      clear hmb hj6
      clear hk hb hm
      by_cases hlt : j < n
      · obtain ⟨b, off, k, i, o, ws, bs, ss, rl, a0, c0, a1, c1, a2, c2, rfl, hbk, hx, q0, q1, q2, q3, q4, q5, q6, f0, f1, f2⟩ := (HW.out.kept B3.out).one hlt
        have hx' := pst_map hx
        rw [HP.out] at hx'
        have hz := step_sizes (vPln_at HV.out hx').1
        have hen := (vPln_at HV.out hx').2.1
        dsimp only at hz
        obtain ⟨i1, i8⟩ := hz.1
        obtain ⟨o1, o8⟩ := hz.2.1
        have HS := Lib.hid (prodU_succ hx')
        have hlt' : (j : Int) < (n : Int) := by omega
        have hj0 : (0 : Int) ≤ (j : Int) := by omega
        have bal := (Below.refl wr.heap.size wr).alloc (Nat.le_refl _) (.cells #[.int .i64 k, .int .i64 i, .int .i64 o, .slice a0 ws.length c0, .slice a1 bs.length c1, .slice a2 ss.length c2, .bool rl] 83)
        have B4 := Lib.hid (Below.next B3.out bal)
        have K4 := Lib.hid (K3.out.below bal)
        have hps := prod_step (vPln_at HV.out hx').1 hen
        have hpk := prod_kind (vPln_at HV.out hx').1 hen
        have hmm := mul_sz i1 i8 o1 o8
        have k05 := hz.2.2.1
        obtain ⟨l1, l2⟩ := hps
        dsimp only at l1 l2 hpk
        have KP := Lib.hid hpk
        clear f0 f1 f2 hx hx' hz hen bal hpk pl
        have kk : k = 0 ∨ k = 2 ∨ k = 5 ∨ (¬ k = 0 ∧ ¬ k = 2 ∧ ¬ k = 5) := by omega
        obtain ⟨P, hP⟩ : ∃ P, i * o = P := ⟨_, rfl⟩
        rcases kk with rfl | rfl | rfl | ⟨kn0, kn2, kn5⟩
        all_goals
          rw [hP] at hmm
          have HPP := Lib.hid hP
          obtain ⟨P1, P2⟩ := hmm
          have hw : IntKind.i64.wrap P = P := IntWalk.i64_in _ (by omega)
          rw [← hP] at hw
          rw [hP] at hw
          have hw' : IntKind.i64.wrap (i * o) = P := by rw [hP]; exact hw
          clear hP hw
          go_wp2_with fail
          go_roundw
          case rel => exact ⟨j + 1, by omega, by go_num, by rw [HS.out, HM.out, KP.out, HPP.out]; simp [*], K4.out, B4.out⟩
          case measure => simp [intOf]; omega
      · obtain rfl : j = n := by omega
        go_wp2_with fail
        go_ret2
        refine ⟨?_, B3.out⟩
        have h1 := HX.out
        rw [HL.out, HM.out] at h1
        rw [h1]
        rfl
set_option maxRecDepth 20000 in
set_option maxHeartbeats 4000000 in
theorem t_iPlanProducts (ps : List PstP) (n : Nat) (g : Option Addr) (c : Nat) (y : List PstA) (w : World) (hp : y.map PstA.p = ps) (h : PstsAt w g n c y) (hn : n ≤ 1048576) :
    Calls Try.prog 33 #[.agg #[.slice g n c]] w (RetNb (vPlanProducts ps).1 (vPlanProducts ps).2 w) := by
  have hln : y.length = n := h.1
  have hlp : ps.length = n := by rw [← hp, List.length_map]; exact hln
  have al := (Below.refl w.heap.size w).alloc (Nat.le_refl _) (.cells #[.slice g n c] 29)
  have K := Lib.hid (Blk.new w 29 #[.slice g n c])
  have B := Lib.hid al
  have H := Lib.hid (h.kept al)
  have HW := Lib.hid h
  have HP := Lib.hid hp
  have HL := Lib.hid hlp
  cases hv : vPln ps with
  | false =>
    have HV := Lib.hid hv
    rw [show vPlanProducts ps = (0, false) by simp [vPlanProducts, hv]]
    clear al h hp hv hln hlp
    go_enter Try.func33, Try.ntmps33
    go_wp2_with fail
    generalize w.alloc (.cells #[.slice g n c] 29) = w1 at K B H ⊢
    refine (c_iValidPlan g c n y false (by rw [HP.out]; exact HV.out) w1 H.out hn).mono ?_
    rintro e w2 ⟨rfl, bl⟩
    have B2 := Lib.hid (Below.next B.out bl)
    clear bl
    go_wp2_with fail
    go_ret2
    exact ⟨rfl, B2.out⟩
  | true =>
    have HV := Lib.hid hv
    rw [show vPlanProducts ps = (prodU ps ps.length, true) by simp [vPlanProducts, hv]]
    dsimp only
    obtain ⟨x, hx⟩ : ∃ x, prodU ps ps.length = x := ⟨_, rfl⟩
    rw [hx]
    have HX := Lib.hid hx
    clear al h hp hv hln hlp hx
    go_enter Try.func33, Try.ntmps33
    go_wp2_with fail
    generalize w.alloc (.cells #[.slice g n c] 29) = w1 at K B H ⊢
    refine (c_iValidPlan g c n y true (by rw [HP.out]; exact HV.out) w1 H.out hn).mono ?_
    rintro e w2 ⟨rfl, bl⟩
    have K2 := Lib.hid (K.out.below bl)
    have B2 := Lib.hid (Below.next B.out bl)
    clear bl
    obtain ⟨p0, pl⟩ := tb1 K2.out
    go_wp2_with fail
    go_loopw [4, 13] (fun mv iv wr => RoomRel (prodU ps) n g c w mv iv wr) (fun _ iv _ => n - (intOf iv).toNat)
    case atStart => exact ⟨0, Nat.zero_le _, rfl, rfl, K2.out, B2.out⟩
    case round =>
      obtain ⟨j, hj, rfl, rfl, hk, hb⟩ := hrel
      have K3 := Lib.hid hk
      have B3 := Lib.hid hb
      obtain ⟨p0, pl⟩ := tb1 hk
      obtain ⟨m, hm⟩ : ∃ m, prodU ps j = m := ⟨_, rfl⟩
      have HM := Lib.hid hm
      rw [hm]
      have hj6 : n ≤ 6 ∨ n = 0 := by
        by_cases h0 : n = 0
        · exact .inr h0
        · have hl := HL.out
          exact .inl (by rw [← hl]; exact (vPln_at (p := ps[0]'(by omega)) (j := 0) HV.out (by simp)).2.2)
      have hmb := prodU_le HV.out j
      rw [hm] at hmb
      have m1 : (0 : Int) ≤ m := hmb.1
      have m2 : m ≤ 432 := by omega
      clear hmb hj6
      clear hk hb hm
      by_cases hlt : j < n
      · obtain ⟨b, off, k, i, o, ws, bs, ss, rl, a0, c0, a1, c1, a2, c2, rfl, hbk, hx, q0, q1, q2, q3, q4, q5, q6, f0, f1, f2⟩ := (HW.out.kept B3.out).one hlt
        have hx' := pst_map hx
        rw [HP.out] at hx'
        have hz := step_sizes (vPln_at HV.out hx').1
        have hen := (vPln_at HV.out hx').2.1
        dsimp only at hz
        obtain ⟨i1, i8⟩ := hz.1
        obtain ⟨o1, o8⟩ := hz.2.1
        have HS := Lib.hid (prodU_succ hx')
        have hlt' : (j : Int) < (n : Int) := by omega
        have hj0 : (0 : Int) ≤ (j : Int) := by omega
        have bal := (Below.refl wr.heap.size wr).alloc (Nat.le_refl _) (.cells #[.int .i64 k, .int .i64 i, .int .i64 o, .slice a0 ws.length c0, .slice a1 bs.length c1, .slice a2 ss.length c2, .bool rl] 83)
        have B4 := Lib.hid (Below.next B3.out bal)
        have K4 := Lib.hid (K3.out.below bal)
        have hps := prod_step (vPln_at HV.out hx').1 hen
        obtain ⟨l1, l2⟩ := hps
        dsimp only at l1 l2
        clear f0 f1 f2 hx hx' hz hen bal
        go_wp2_with fail
        go_roundw
        case rel => exact ⟨j + 1, by omega, by go_num, by rw [HS.out, HM.out], K4.out, B4.out⟩
        case measure => simp [intOf]; omega
      · obtain rfl : j = n := by omega
        go_wp2_with fail
        go_ret2
        refine ⟨?_, B3.out⟩
        have h1 := HX.out
        rw [HL.out, HM.out] at h1
        rw [h1]
        rfl
end Go.Proofs.Ytkpcjjnaocdelaa
