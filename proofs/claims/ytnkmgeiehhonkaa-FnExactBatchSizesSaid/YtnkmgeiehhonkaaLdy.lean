/-
  LongestDelay: what the model and the program answer. Conditions: the cells can be read.
-/
import Derived.Test.YtnkmgeiehhonkaaAnss
import Derived.Test.YtnkmgeiehhonkaaReqs
import Derived.Test.YtnkmgeiehhonkaaOp5
import Derived.BigQuiet
import Derived.Deep.QuietTactic
namespace Go.Proofs.Ytnkmgeiehhonkaa
open Go.RowKit Go.Deep Go.WideShapes Go.ChangeShapes
set_option linter.unusedVariables false

def ldB (p q : Int) : Bool := (decide (0 ≤ p) && decide (p ≤ 200000)) && (decide (p ≤ q) && decide (q ≤ 200000))
def ldTest (ps : List ReqP) (qs : List AnsP) (j : Nat) : Bool := match ps[j]?, qs[j]? with
  | some p, some q => ldB p.tk q.tk
  | _, _ => true
def ldUp (ps : List ReqP) (qs : List AnsP) : Nat → Bool
  | 0 => true
  | j + 1 => ldUp ps qs j && ldTest ps qs j
def ldMost (ps : List ReqP) (qs : List AnsP) : Nat → Int
  | 0 => 0
  | j + 1 => match ps[j]?, qs[j]? with
    | some p, some q => max (ldMost ps qs j) (q.tk - p.tk)
    | _, _ => ldMost ps qs j
def ldOk (ps : List ReqP) (qs : List AnsP) : Bool := (decide (ps.length ≤ 20) && decide (qs.length = ps.length)) && ldUp ps qs ps.length
def vLongestDelay (ps : List ReqP) (qs : List AnsP) : Int × Bool := if ldOk ps qs = true then (ldMost ps qs ps.length, true) else (0, false)
theorem vLd_yes {ps : List ReqP} {qs : List AnsP} (h : ldOk ps qs = true) : vLongestDelay ps qs = (ldMost ps qs ps.length, true) := by rw [vLongestDelay, if_pos h]
theorem vLd_no {ps : List ReqP} {qs : List AnsP} (h : ldOk ps qs = false) : vLongestDelay ps qs = (0, false) := by rw [vLongestDelay, if_neg (by rw [h]; decide)]
theorem ldUp_no {ps : List ReqP} {qs : List AnsP} {j : Nat} (h : ldTest ps qs j = false) : ∀ n, j < n → ldUp ps qs n = false := by
  intro n
  induction n with
  | zero => intro hn; omega
  | succ n ih =>
    intro hn
    simp only [ldUp]
    by_cases hj : j < n
    · rw [ih hj]; rfl
    · obtain rfl : j = n := by omega
      rw [h]; simp
theorem ldOk_no {ps : List ReqP} {qs : List AnsP} {j : Nat} (h : ldTest ps qs j = false) (hj : j < ps.length) : ldOk ps qs = false := by
  rw [ldOk, ldUp_no h _ hj]; simp
theorem ld_at {ps : List ReqP} {qs : List AnsP} {j : Nat} {p : ReqP} {q : AnsP} (h1 : ps[j]? = some p) (h2 : qs[j]? = some q) :
    ldTest ps qs j = ldB p.tk q.tk ∧ ldMost ps qs (j + 1) = max (ldMost ps qs j) (q.tk - p.tk) ∧ ldUp ps qs (j + 1) = (ldUp ps qs j && ldB p.tk q.tk) := by simp [ldTest, ldMost, ldUp, h1, h2]
theorem ldB_iff (p q : Int) : ldB p q = true ↔ (0 ≤ p ∧ p ≤ q ∧ q ≤ 200000) := by
  simp only [ldB, Bool.and_eq_true, decide_eq_true_eq]; omega
theorem ldMost_le {ps : List ReqP} {qs : List AnsP} : ∀ n, ldUp ps qs n = true → 0 ≤ ldMost ps qs n ∧ ldMost ps qs n ≤ 200000 := by
  intro n
  induction n with
  | zero => intro _; simp [ldMost]
  | succ n ih =>
    intro h
    simp only [ldUp, Bool.and_eq_true] at h
    obtain ⟨i1, i2⟩ := ih h.1
    cases h1 : ps[n]? with
    | none => simp only [ldMost, h1]; omega
    | some p =>
      cases h2 : qs[n]? with
      | none => simp only [ldMost, h1, h2]; omega
      | some q =>
        have h3 := h.2
        rw [(ld_at h1 h2).1, ldB_iff] at h3
        rw [(ld_at h1 h2).2.1]
        omega
def LdRel (ps : List ReqP) (qs : List AnsP) (n : Nat) (w : World) (mv iv : Value) (wr : World) : Prop :=
  ∃ j : Nat, j ≤ n ∧ iv = .int .i64 j ∧ mv = .int .i64 (ldMost ps qs j) ∧ ldUp ps qs j = true ∧ Below w.heap.size w wr
theorem reqs_map {ls : List ReqA} {j : Nat} {x : ReqA} (h : ls[j]? = some x) : (ls.map ReqA.p)[j]? = some x.p := by simp [h]
theorem anss_map {ls : List AnsA} {j : Nat} {x : AnsA} (h : ls[j]? = some x) : (ls.map AnsA.p)[j]? = some x.p := by simp [h]
theorem c_maxL (a b : Int) (w : World) : Calls Try.prog 95 #[.int .i64 a, .int .i64 b] w fun e w' => e = .returned (.int .i64 (max a b)) ∧ w = w' := by
  by_cases h : b < a
  · have h' : (a > b) := h
    obtain ⟨m, hm⟩ : ∃ m, max a b = m := ⟨_, rfl⟩
    have HM := Lib.hid (show m = a by omega)
    rw [hm]
    clear h' hm
    go_enter Try.func95, Try.ntmps95
    go_wp2
    go_ret
    exact ⟨ret_i HM.out.symm, rfl⟩
  · have h' : a ≤ b := by omega
    obtain ⟨m, hm⟩ : ∃ m, max a b = m := ⟨_, rfl⟩
    have HM := Lib.hid (show m = b by omega)
    rw [hm]
    clear h hm
    go_enter Try.func95, Try.ntmps95
    go_wp2
    go_ret
    exact ⟨ret_i HM.out.symm, rfl⟩
set_option maxRecDepth 20000 in
set_option maxHeartbeats 4000000 in
theorem t_sLongestDelay (ps : List ReqP) (n : Nat) (g : Option Addr) (c : Nat) (y : List ReqA) (qs : List AnsP) (m : Nat) (g' : Option Addr) (c' : Nat) (y' : List AnsA) (w : World)
    (hp : y.map ReqA.p = ps) (h : ReqsAt w g n c y) (hp' : y'.map AnsA.p = qs) (h' : AnssAt w g' m c' y') :
    Calls Try.prog 30 #[.slice g n c, .slice g' m c'] w (RetNb (vLongestDelay ps qs).1 (vLongestDelay ps qs).2 w) := by
  have hln : y.length = n := h.1
  have hlm : y'.length = m := h'.1
  have hlp : ps.length = n := by rw [← hp, List.length_map]; exact hln
  have hlq : qs.length = m := by rw [← hp', List.length_map]; exact hlm
  have hmax : n ≤ 9223372036854775807 := by have h1 := h.2.1; have h2 := h.2.2.1; unfold maxLen at h2; omega
  have hmax' : m ≤ 9223372036854775807 := by have h1 := h'.2.1; have h2 := h'.2.2.1; unfold maxLen at h2; omega
  have H := Lib.hid h
  have H' := Lib.hid h'
  have HP := Lib.hid hp
  have HP' := Lib.hid hp'
  have HL := Lib.hid hlp
  clear h h' hp hp' hln hlm
  by_cases h20 : n ≤ 20
  case neg =>
    rw [vLd_no (by simp [ldOk, hlp, h20])]
    have h20' : (20 : Int) < (n : Int) := by omega
    clear hlp hlq h20
    go_enter Try.func30, Try.ntmps30
    go_wp2
    go_ret2
    exact ⟨rfl, Below.refl _ _⟩
  by_cases hnm : m = n
  case neg =>
    rw [vLd_no (by simp [ldOk, hlp, hlq, hnm])]
    have h20' : (n : Int) ≤ 20 := by omega
    have hnm' : ((m : Int) != (n : Int)) = true := by simp; omega
    clear hlp hlq h20
    go_enter Try.func30, Try.ntmps30
    go_wp2
    go_ret2
    exact ⟨rfl, Below.refl _ _⟩
  subst hnm
  have h20' : (m : Int) ≤ 20 := by omega
  have HLQ := Lib.hid hlq
  have hok : ldOk ps qs = ldUp ps qs m := by rw [ldOk, hlp, hlq]; simp [h20]
  have HOK := Lib.hid hok
  clear hlp hlq h20 hmax' hok
  go_enter Try.func30, Try.ntmps30
  go_wp2_with fail
  go_loopw [6, 7] (fun mv iv wr => LdRel ps qs m w mv iv wr) (fun _ iv _ => m - (intOf iv).toNat)
  case atStart => exact ⟨0, Nat.zero_le _, rfl, rfl, rfl, Below.refl _ _⟩
  case round =>
    obtain ⟨j, hj, rfl, rfl, hu, hb⟩ := hrel
    have HU := Lib.hid hu
    have HB := Lib.hid hb
    have hbnd := ldMost_le j hu
    obtain ⟨mo, hmo⟩ : ∃ x, ldMost ps qs j = x := ⟨_, rfl⟩
    have HMO := Lib.hid hmo
    rw [hmo] at hbnd
    rw [hmo]
    obtain ⟨m0, m1⟩ := hbnd
    clear hu hb hmo
    by_cases hlt : j < m
    · obtain ⟨b, off, tk, ro, a0, c0, rfl, hbk, hx, q0, q1, f0⟩ := (H.out.kept HB.out).one hlt
      obtain ⟨b', off', tk', ba', ro', a0', c0', rfl, hbk', hx', q0', q1', q2', f0'⟩ := (H'.out.kept HB.out).one hlt
      have e1 := reqs_map hx
      have e2 := anss_map hx'
      rw [HP.out] at e1
      rw [HP'.out] at e2
      have hat := ld_at e1 e2
      dsimp only at hat
      have hlt' : (j : Int) < (m : Int) := by omega
      have hj0 : (0 : Int) ≤ (j : Int) := by omega
      clear f0 f0' hx hx' e1 e2 q1 q1' q2'
      cases hB : ldB tk tk' with
      | false =>
        have HN := Lib.hid (hat.1.trans hB)
        have HJ := Lib.hid (show j < ps.length by rw [HL.out]; exact hlt)
        clear hat
        by_cases hr : 0 ≤ tk ∧ tk ≤ 200000
        · have hs : (decide (tk ≤ tk') && decide (tk' ≤ 200000)) = false := by
            rw [ldB, decide_eq_true hr.1, decide_eq_true hr.2] at hB
            simpa using hB
          have hr' : (decide ((0 : Int) ≤ tk) && decide (tk ≤ 200000)) = true := by simp [hr]
          have HR := Lib.hid hr'
          have HS := Lib.hid hs
          clear hr hr' hs hB
          go_wp2_with fail
          go_quiet ((go_at_call 94; exact Calls.quiet_of_same ((c_l00In _ _ _ _ (by first | exact HR.out | exact HS.out) _).mono fun _ _ h => ⟨h.1, h.2.symm⟩)))
          rename_i nq
          have B4 := Lib.hid (below_drewN HB.out nq)
          go_wp2_with fail
          go_ret2
          rw [vLd_no (ldOk_no HN.out HJ.out)]
          exact ⟨rfl, B4.out⟩
        · have hr' : (decide ((0 : Int) ≤ tk) && decide (tk ≤ 200000)) = false := by
            rw [Bool.and_eq_false_iff]
            by_cases h1 : 0 ≤ tk
            · exact .inr (by simp; omega)
            · exact .inl (by simpa using h1)
          have HR := Lib.hid hr'
          clear hr hr' hB
          go_wp2_with fail
          go_quiet (first | (go_at_call 94; exact Calls.quiet_of_same ((c_l00In tk 0 200000 false HR.out _).mono fun _ _ h => ⟨h.1, h.2.symm⟩)))
          rename_i nq
          have B4 := Lib.hid (below_drewN HB.out nq)
          go_wp2_with fail
          go_ret2
          rw [vLd_no (ldOk_no HN.out HJ.out)]
          exact ⟨rfl, B4.out⟩
      | true =>
        have hiff := (ldB_iff _ _).1 hB
        have HN := Lib.hid hat.2.1
        have HN2 := Lib.hid (show ldUp ps qs (j + 1) = true by rw [hat.2.2, HU.out, hB]; rfl)
        have HR := Lib.hid (show (decide ((0 : Int) ≤ tk) && decide (tk ≤ 200000)) = true by simp only [Bool.and_eq_true, decide_eq_true_eq]; omega)
        have HS := Lib.hid (show (decide (tk ≤ tk') && decide (tk' ≤ 200000)) = true by simp only [Bool.and_eq_true, decide_eq_true_eq]; omega)
        obtain ⟨t1, t2, t3⟩ := hiff
        have t4 : tk ≤ 200000 := by omega
        clear hat hB
        go_wp2_with fail
        go_quiet ((go_at_call 94; exact Calls.quiet_of_same ((c_l00In _ _ _ _ (by first | exact HR.out | exact HS.out) _).mono fun _ _ h => ⟨h.1, h.2.symm⟩)))
        rename_i nq
        have B4 := Lib.hid (below_drewN HB.out nq)
        have r0 := (below_drewN (Below.refl wr.heap.size wr) nq).cell (p := ⟨b, off + j * 2, none⟩) hbk |>.trans q0
        have r1 := (below_drewN (Below.refl wr.heap.size wr) nq).cell (p := ⟨b', off' + j * 3, none⟩) hbk' |>.trans q0'
        clear q0 q0'
        generalize wr.drewN nq = w4 at B4 r0 r1 ⊢
        go_wp2_with fail
        go_quiet ((go_at_call 95; exact Calls.quiet_of_same ((c_maxL mo (tk' - tk) _).mono fun _ _ h => ⟨h.1, h.2.symm⟩)))
        have B5 := Lib.hid (below_drewN B4.out nq)
        generalize w4.drewN nq = w5 at B5 ⊢
        go_wp2_with fail
        go_roundw
        case rel => exact ⟨j + 1, by omega, by go_num, by rw [HN.out, HMO.out], HN2.out, B5.out⟩
        case measure => simp [intOf]; omega
    · obtain rfl : j = m := by omega
      go_wp2_with fail
      go_ret2
      rw [vLd_yes (HOK.out.trans HU.out), HL.out, HMO.out]
      exact ⟨rfl, HB.out⟩
set_option maxRecDepth 20000 in
set_option maxHeartbeats 4000000 in
theorem t_iLongestDelay (ps : List ReqP) (n : Nat) (g : Option Addr) (c : Nat) (y : List ReqA) (qs : List AnsP) (m : Nat) (g' : Option Addr) (c' : Nat) (y' : List AnsA) (w : World)
    (hp : y.map ReqA.p = ps) (h : ReqsAt w g n c y) (hp' : y'.map AnsA.p = qs) (h' : AnssAt w g' m c' y') :
    Calls Try.prog 32 #[.slice g n c, .slice g' m c'] w (RetNb (vLongestDelay ps qs).1 (vLongestDelay ps qs).2 w) := by
  have hln : y.length = n := h.1
  have hlm : y'.length = m := h'.1
  have hlp : ps.length = n := by rw [← hp, List.length_map]; exact hln
  have hlq : qs.length = m := by rw [← hp', List.length_map]; exact hlm
  have hmax : n ≤ 9223372036854775807 := by have h1 := h.2.1; have h2 := h.2.2.1; unfold maxLen at h2; omega
  have hmax' : m ≤ 9223372036854775807 := by have h1 := h'.2.1; have h2 := h'.2.2.1; unfold maxLen at h2; omega
  have H := Lib.hid h
  have H' := Lib.hid h'
  have HP := Lib.hid hp
  have HP' := Lib.hid hp'
  have HL := Lib.hid hlp
  clear h h' hp hp' hln hlm
  by_cases h20 : n ≤ 20
  case neg =>
    rw [vLd_no (by simp [ldOk, hlp, h20])]
    have h20' : (20 : Int) < (n : Int) := by omega
    clear hlp hlq h20
    go_enter Try.func32, Try.ntmps32
    go_wp2
    go_ret2
    exact ⟨rfl, Below.refl _ _⟩
  by_cases hnm : m = n
  case neg =>
    rw [vLd_no (by simp [ldOk, hlp, hlq, hnm])]
    have h20' : (n : Int) ≤ 20 := by omega
    have hnm' : ((m : Int) != (n : Int)) = true := by simp; omega
    clear hlp hlq h20
    go_enter Try.func32, Try.ntmps32
    go_wp2
    go_ret2
    exact ⟨rfl, Below.refl _ _⟩
  subst hnm
  have h20' : (m : Int) ≤ 20 := by omega
  have HLQ := Lib.hid hlq
  have hok : ldOk ps qs = ldUp ps qs m := by rw [ldOk, hlp, hlq]; simp [h20]
  have HOK := Lib.hid hok
  clear hlp hlq h20 hmax' hok
  go_enter Try.func32, Try.ntmps32
  go_wp2_with fail
  go_loopw [6, 22] (fun mv iv wr => LdRel ps qs m w mv iv wr) (fun _ iv _ => m - (intOf iv).toNat)
  case atStart => exact ⟨0, Nat.zero_le _, rfl, rfl, rfl, Below.refl _ _⟩
  case round =>
    obtain ⟨j, hj, rfl, rfl, hu, hb⟩ := hrel
    have HU := Lib.hid hu
    have HB := Lib.hid hb
    have hbnd := ldMost_le j hu
    obtain ⟨mo, hmo⟩ : ∃ x, ldMost ps qs j = x := ⟨_, rfl⟩
    have HMO := Lib.hid hmo
    rw [hmo] at hbnd
    rw [hmo]
    obtain ⟨m0, m1⟩ := hbnd
    clear hu hb hmo
    by_cases hlt : j < m
    · obtain ⟨b, off, tk, ro, a0, c0, rfl, hbk, hx, q0, q1, f0⟩ := (H.out.kept HB.out).one hlt
      obtain ⟨b', off', tk', ba', ro', a0', c0', rfl, hbk', hx', q0', q1', q2', f0'⟩ := (H'.out.kept HB.out).one hlt
      have e1 := reqs_map hx
      have e2 := anss_map hx'
      rw [HP.out] at e1
      rw [HP'.out] at e2
      have hat := ld_at e1 e2
      dsimp only at hat
      have hlt' : (j : Int) < (m : Int) := by omega
      have hj0 : (0 : Int) ≤ (j : Int) := by omega
      have bal := (Below.refl wr.heap.size wr).alloc (Nat.le_refl _) (.cells #[.int .i64 tk', .int .i64 ba', .slice a0' ro'.length c0'] 138)
      have B4 := Lib.hid (Below.next HB.out bal)
      have r0 := (bal.cell (p := ⟨b, off + j * 2, none⟩) hbk).trans q0
      clear f0 f0' hx hx' e1 e2 q1 bal
      cases hB : ldB tk tk' with
      | false =>
        have HN := Lib.hid (hat.1.trans hB)
        have HJ := Lib.hid (show j < ps.length by rw [HL.out]; exact hlt)
        clear hat
        have hnot : ¬ (0 ≤ tk ∧ tk ≤ tk' ∧ tk' ≤ 200000) := by rw [← ldB_iff, hB]; decide
        by_cases t1 : 0 ≤ tk
        · by_cases t2 : tk ≤ tk'
          · have t3 : (200000 : Int) < tk' := by omega
            clear hnot hB
            go_wp2_with fail
            go_ret2
            rw [vLd_no (ldOk_no HN.out HJ.out)]
            exact ⟨rfl, B4.out⟩
          · have t2' : tk' < tk := by omega
            clear hnot hB t2
            go_wp2_with fail
            go_ret2
            rw [vLd_no (ldOk_no HN.out HJ.out)]
            exact ⟨rfl, B4.out⟩
        · have t1' : tk < 0 := by omega
          clear hnot hB t1
          go_wp2_with fail
          go_ret2
          rw [vLd_no (ldOk_no HN.out HJ.out)]
          exact ⟨rfl, B4.out⟩
      | true =>
        have hiff := (ldB_iff _ _).1 hB
        have HN := Lib.hid hat.2.1
        have HN2 := Lib.hid (show ldUp ps qs (j + 1) = true by rw [hat.2.2, HU.out, hB]; rfl)
        obtain ⟨t1, t2, t3⟩ := hiff
        have t4 : tk ≤ 200000 := by omega
        clear hat hB
        go_wp2_with fail
        go_roundw
        case rel => exact ⟨j + 1, by omega, by go_num, by rw [HN.out, HMO.out]; congr 1; split <;> omega, HN2.out, B4.out⟩
        case measure => simp [intOf]; omega
    · obtain rfl : j = m := by omega
      go_wp2_with fail
      go_ret2
      rw [vLd_yes (HOK.out.trans HU.out), HL.out, HMO.out]
      exact ⟨rfl, HB.out⟩
end Go.Proofs.Ytnkmgeiehhonkaa
