/-
  SameTraining: the model. Conditions: the cells can be read.
-/
import Derived.Test.YtlddonneccihiaaSmi
import Derived.BigQuiet
namespace Go.Proofs.Ytlddonneccihiaa
open Go.RowKit Go.Deep Go.WideShapes Go.ChangeShapes
set_option linter.unusedVariables false
attribute [local go_sem] World.drewN_zero

theorem c_SameAll (a b : Option Addr) (ca cb : Nat) (xs ys : List Nat) (w : World) (ha : IsFloats .f32 w a xs.length ca xs) (hb : IsFloats .f32 w b ys.length cb ys) :
    Calls Try.prog 52 #[.slice a xs.length ca, .slice b ys.length cb] w fun e w' => e = .returned (.bool (sameB xs ys)) ∧ Drawn w w' := by
  by_cases hl : xs.length = ys.length
  · have h := c_l01SameAll a b ca cb xs ys ys.length w (by rw [← hl]; rw [← hl] at hb; exact ha) hb
    rw [hl]
    exact h
  · have hx : xs.length ≤ 9223372036854775807 := by have h1 := ha.1; have h2 := ha.2.1; unfold maxLen at h2; omega
    have hy : ys.length ≤ 9223372036854775807 := by have h1 := hb.1; have h2 := hb.2.1; unfold maxLen at h2; omega
    have hs : sameB xs ys = false := decide_eq_false (map_len hl)
    have hne : ¬ (xs.length : Int) = (ys.length : Int) := by omega
    rw [hs]
    clear ha hb hs hl
    go_enter Try.func52, Try.ntmps52
    go_wp2_with fail
    go_ret
    exact ⟨rfl, 0, by rw [World.drewN_zero]⟩
theorem quiet_sameT {P : Program} {f : FuncId} {args : Array Value} {w : World} {n : Nat} {v : Value}
    (h : Calls P f args (w.drewN n) fun e w' => e = .returned v ∧ w.drewN n = w') : Calls P f args (w.drewN n) fun e w'' => e = .returned v ∧ ∃ m, w'' = w.drewN m :=
  h.mono fun _ _ ⟨he, hw⟩ => ⟨he, n, hw.symm⟩
def SmRel (ls ls' : List FlA) (n : Nat) (w : World) (i : Value) (wr : World) : Prop := ∃ k : Nat, k ≤ n ∧ i = .int .i64 k ∧ (ls.take k).map (fun x => x.z.map (canon .f32)) = (ls'.take k).map (fun x => x.z.map (canon .f32)) ∧ Below w.heap.size w wr
def SmLRel (ls ls' : List LayA) (n : Nat) (w : World) (i : Value) (wr : World) : Prop := ∃ k : Nat, k ≤ n ∧ i = .int .i64 k ∧ (ls.take k).map (fun x => x.p.can) = (ls'.take k).map (fun x => x.p.can) ∧ Below w.heap.size w wr
set_option maxRecDepth 20000 in
set_option maxHeartbeats 8000000 in
theorem c_l07Same (G G' : Nat) (q q' : TrsA) (w : World) (h : TrsAt w q) (h' : TrsAt w q') (K : Blk w G 35 q.cells) (K' : Blk w G' 35 q'.cells) :
    Calls Try.prog 29 #[.pointer (some ⟨G, 0, none⟩), .pointer (some ⟨G', 0, none⟩)] w fun e w' => e = .returned (.bool (vSame q q')) ∧ Below w.heap.size w w' := by
  obtain ⟨g, c, ls, hh, d, ss, st, sd, sc⟩ := q
  obtain ⟨g', c', ls', hh', d', ss', st', sd', sc'⟩ := q'
  simp only [TrsAt] at h h'
  obtain ⟨a1, a2, a3⟩ := h
  obtain ⟨b1, b2, b3⟩ := h'
  unfold TrsA.cells at K K'
  simp only at K K'
  obtain ⟨s, hs⟩ : ∃ s, vSame ⟨g, c, ls, hh, d, ss, st, sd, sc⟩ ⟨g', c', ls', hh', d', ss', st', sd', sc'⟩ = s := ⟨_, rfl⟩
  have hv : (sameLs ls ls' && (sameSS ss ss' && (decide (st = st') && (decide (sd = sd') && decide (canon .f32 sc = canon .f32 sc'))))) = s := hs
  have HV := Lib.hid hv
  rw [hs]
  clear hs hv
  obtain ⟨n, hn⟩ : ∃ n, ls.length = n := ⟨_, rfl⟩
  obtain ⟨n', hn'⟩ : ∃ n, ls'.length = n := ⟨_, rfl⟩
  obtain ⟨m, hm⟩ : ∃ n, ss.length = n := ⟨_, rfl⟩
  obtain ⟨m', hm'⟩ : ∃ n, ss'.length = n := ⟨_, rfl⟩
  rw [hn] at K a1
  rw [hn'] at K' b1
  rw [hm] at K a2
  rw [hm'] at K' b2
  have n1 : n ≤ 9223372036854775807 := by have h1 := a1.2.1; have h2 := a1.2.2.1; unfold maxLen at h2; omega
  have n2 : n' ≤ 9223372036854775807 := by have h1 := b1.2.1; have h2 := b1.2.2.1; unfold maxLen at h2; omega
  have n3 : m ≤ 9223372036854775807 := by have h1 := a2.2.1; have h2 := a2.2.2.1; unfold maxLen at h2; omega
  have n4 : m' ≤ 9223372036854775807 := by have h1 := b2.2.1; have h2 := b2.2.2.1; unfold maxLen at h2; omega
  have HN := Lib.hid hn
  have HN' := Lib.hid hn'
  have HM := Lib.hid hm
  have HM' := Lib.hid hm'
  have A1 := Lib.hid a1
  have A2 := Lib.hid a2
  have A3 := Lib.hid (show sc < 4294967296 from a3)
  have B1 := Lib.hid b1
  have B2 := Lib.hid b2
  have B3 := Lib.hid (show sc' < 4294967296 from b3)
  have KK := Lib.hid K
  have KK' := Lib.hid K'
  clear hn hn' hm hm' a1 a2 a3 b1 b2 b3 K K'
  obtain ⟨p0, p1, p2, p3, p4, p5⟩ := tbt5 KK.out
  obtain ⟨q0, q1, q2, q3, q4, q5⟩ := tbt5 KK'.out
  by_cases e1 : st = st'
  case neg =>
    have HF := Lib.hid (show false = s by rw [← HV.out]; simp [e1])
    clear HV
    have dn : (st != st') = true := bne_iff_ne.2 e1
    clear e1
    go_enter Try.func29, Try.ntmps29
    go_wp2_with fail
    go_quiet ((fail))
    go_wp2_with fail
    go_ret
    exact ⟨ret_b HF.out, below_drewN (Below.refl _ _) _⟩
  case pos =>
  by_cases e2 : sd = sd'
  case neg =>
    subst e1
    have HF := Lib.hid (show false = s by rw [← HV.out]; simp [e2])
    clear HV
    have dn : (sd != sd') = true := bne_iff_ne.2 e2
    clear e2
    go_enter Try.func29, Try.ntmps29
    go_wp2_with fail
    go_quiet ((fail))
    go_wp2_with fail
    go_ret
    exact ⟨ret_b HF.out, below_drewN (Below.refl _ _) _⟩
  case pos =>
  subst e1 e2
  by_cases e3 : canon .f32 sc = canon .f32 sc'
  case neg =>
    have hsm := fun W => c_l01Same sc sc' A3.out B3.out W
    simp only [show ((canon .f32 sc : Int) == (canon .f32 sc' : Int)) = false by rw [beq_eq_false_iff_ne]; intro e; exact e3 (by omega)] at hsm
    have HSM := Lib.hid hsm
    clear hsm
    have HF := Lib.hid (show false = s by rw [← HV.out]; simp [e3])
    clear HV
    go_enter Try.func29, Try.ntmps29
    go_wp2_with fail
    go_quiet ((go_at_call 51; exact quiet_sameT (HSM.out _)))
    go_wp2_with fail
    go_ret
    exact ⟨ret_b HF.out, below_drewN (Below.refl _ _) _⟩
  case pos =>
  have hsm := fun W => c_l01Same sc sc' A3.out B3.out W
  simp only [show ((canon .f32 sc : Int) == (canon .f32 sc' : Int)) = true by rw [e3]; exact beq_self_eq_true _] at hsm
  have HSM := Lib.hid hsm
  clear hsm
  by_cases e4 : m = m'
  case neg =>
    have hne : ¬ (m : Int) = (m' : Int) := by omega
    have HF := Lib.hid (show false = s by rw [← HV.out]; rw [show sameSS ss ss' = false from decide_eq_false (map_len (by rw [HM.out, HM'.out]; exact e4))]; simp)
    clear HV
    have dn : ((m : Int) != (m' : Int)) = true := bne_iff_ne.2 hne
    clear hne
    go_enter Try.func29, Try.ntmps29
    go_wp2_with fail
    go_quiet ((go_at_call 51; exact quiet_sameT (HSM.out _)))
    go_wp2_with fail
    go_ret
    exact ⟨ret_b HF.out, below_drewN (Below.refl _ _) _⟩
  case pos =>
  by_cases e5 : n = n'
  case neg =>
    subst e4
    have hne : ¬ (n : Int) = (n' : Int) := by omega
    have HF := Lib.hid (show false = s by rw [← HV.out]; rw [show sameLs ls ls' = false from decide_eq_false (map_len (by rw [HN.out, HN'.out]; exact e5))]; simp)
    clear HV
    go_enter Try.func29, Try.ntmps29
    go_wp2_with fail
    go_quiet ((go_at_call 51; exact quiet_sameT (HSM.out _)))
    go_wp2_with fail
    go_ret
    exact ⟨ret_b HF.out, below_drewN (Below.refl _ _) _⟩
  case pos =>
  subst e4 e5
  have HV2 := Lib.hid (show (sameLs ls ls' && sameSS ss ss') = s by rw [← HV.out]; simp [e3])
  clear HV
  go_enter Try.func29, Try.ntmps29
  go_wp2_with fail
  go_quiet ((go_at_call 51; exact quiet_sameT (HSM.out _)))
  go_wp2_with fail
  have BB := Lib.hid (below_drewN (Below.refl w.heap.size w) nq)
  generalize w.drewN nq = w1 at BB ⊢
  clear p0 p1 p2 p3 p4 p5 q0 q1 q2 q3 q4 q5 HSM
  go_loopw [5] (fun iv wr => SmRel ss ss' m w iv wr) (fun iv _ => m - (intOf iv).toNat)
  case atStart => exact ⟨0, Nat.zero_le _, rfl, rfl, BB.out⟩
  case round =>
    obtain ⟨k, hk, rfl, he, hb⟩ := hrel
    have HE := Lib.hid he
    have HB := Lib.hid hb
    obtain ⟨p0, p1, p2, p3, p4, p5⟩ := tbt5 (KK.out.below hb)
    obtain ⟨q0, q1, q2, q3, q4, q5⟩ := tbt5 (KK'.out.below hb)
    have hk0 : (0 : Int) ≤ (k : Int) := by omega
    clear he hb BB
    by_cases hlt : k < m
    · obtain ⟨b, off, z, a, c0, rfl, hbk, hx, r0, f⟩ := (A2.out.kept HB.out).one hlt
      obtain ⟨b', off', z', a', c0', rfl, hbk', hx', r0', f'⟩ := (B2.out.kept HB.out).one hlt
      have HX := Lib.hid hx
      have HX' := Lib.hid hx'
      have HSA := Lib.hid (fun i => c_SameAll a a' c0 c0' z z' (wr.drewN i) (f.kept (below_drewN (Below.refl _ _) i)) (f'.kept (below_drewN (Below.refl _ _) i)))
      have hlt' : (k : Int) < (m : Int) := by omega
      clear hx hx' f f'
      by_cases heq : z.map (canon .f32) = z'.map (canon .f32)
      · have HQ := Lib.hid heq
        rw [sameB_true heq] at HSA
        clear heq
        go_wp2_with fail
        go_quiet ((go_at_call 52; exact quiet_drawn (HSA.out _)))
        have HB2 := Lib.hid (Below.next HB.out (below_drewN (Below.refl wr.heap.size wr) nq))
        generalize wr.drewN nq = w2 at HB2 ⊢
        clear p0 p1 p2 p3 p4 p5 q0 q1 q2 q3 q4 q5 r0 r0'
        go_wp2_with fail
        go_roundw
        case rel => exact ⟨k + 1, by omega, by go_num, map_take HE.out HX.out HX'.out HQ.out, HB2.out⟩
        case measure => simp [intOf]; omega
      · have HF2 := Lib.hid (show false = s by rw [← HV2.out, show sameSS ss ss' = false from decide_eq_false (map_ne (f := fun x : FlA => x.z.map (canon .f32)) HX.out HX'.out heq)]; simp)
        rw [show sameB z z' = false from decide_eq_false heq] at HSA
        clear heq
        go_wp2_with fail
        go_quiet ((go_at_call 52; exact quiet_drawn (HSA.out _)))
        have HB2 := Lib.hid (Below.next HB.out (below_drewN (Below.refl wr.heap.size wr) nq))
        generalize wr.drewN nq = w2 at HB2 ⊢
        clear p0 p1 p2 p3 p4 p5 q0 q1 q2 q3 q4 q5 r0 r0'
        go_wp2_with fail
        go_ret
        exact ⟨ret_b HF2.out, HB2.out⟩
    · obtain rfl : k = m := by omega
      have HV3 := Lib.hid (show sameLs ls ls' = s by
        have h1 := HE.out
        rw [List.take_of_length_le (by rw [HM.out]; exact Nat.le_refl _), List.take_of_length_le (by rw [HM'.out]; exact Nat.le_refl _)] at h1
        rw [← HV2.out, show sameSS ss ss' = true from decide_eq_true h1]; simp)
      have BB := Lib.hid HB.out
      clear HV2 HE HB
      go_wp2_with fail
      clear p0 p1 p2 p3 p4 p5 q0 q1 q2 q3 q4 q5
      go_loopw [6] (fun iv wr => SmLRel ls ls' n w iv wr) (fun iv _ => n - (intOf iv).toNat)
      case atStart => exact ⟨0, Nat.zero_le _, rfl, rfl, BB.out⟩
      case round =>
        obtain ⟨k2, hk2, rfl, he, hb⟩ := hrel
        have HE := Lib.hid he
        have HB := Lib.hid hb
        obtain ⟨p0, p1, p2, p3, p4, p5⟩ := tbt5 (KK.out.below hb)
        obtain ⟨q0, q1, q2, q3, q4, q5⟩ := tbt5 (KK'.out.below hb)
        have hk20 : (0 : Int) ≤ (k2 : Int) := by omega
        clear he hb BB
        by_cases hlt2 : k2 < n
        · obtain ⟨b, off, kk, i, o, ws, bs, a0, c0, a1, c1, rfl, hbk, hx, r0, r1, r2, r3, r4, f0, f1⟩ := (A1.out.kept HB.out).one hlt2
          obtain ⟨b', off', kk', i', o', ws', bs', a0', c0', a1', c1', rfl, hbk', hx', r0', r1', r2', r3', r4', f0', f1'⟩ := (B1.out.kept HB.out).one hlt2
          have HX := Lib.hid hx
          have HX' := Lib.hid hx'
          have hlt' : (k2 : Int) < (n : Int) := by omega
          obtain ⟨k1, k2', bb⟩ := two_boxes wr 82 #[.int .i64 kk, .int .i64 i, .int .i64 o, .slice a0 ws.length c0, .slice a1 bs.length c1] #[.int .i64 kk', .int .i64 i', .int .i64 o', .slice a0' ws'.length c0', .slice a1' bs'.length c1']
          have KA := Lib.hid k1
          have KB := Lib.hid k2'
          have BB := Lib.hid bb
          have HS0 := Lib.hid (fun W (hb : Below wr.heap.size wr W) => c_SameAll a0 a0' c0 c0' ws ws' W (f0.kept hb) (f0'.kept hb))
          have HS1 := Lib.hid (fun W (hb : Below wr.heap.size wr W) => c_SameAll a1 a1' c1 c1' bs bs' W (f1.kept hb) (f1'.kept hb))
          clear hx hx' f0 f1 f0' f1' k1 k2' bb
          have HNE := Lib.hid (fun (h : ¬ (kk = kk' ∧ i = i' ∧ o = o' ∧ ws.map (canon .f32) = ws'.map (canon .f32) ∧ bs.map (canon .f32) = bs'.map (canon .f32))) => (show false = s by rw [← HV3.out]; exact (decide_eq_false (map_ne (f := fun x : LayA => x.p.can) HX.out HX'.out (fun h2 => h (lay_can.1 h2)))).symm))
          by_cases e1 : kk = kk'
          case neg =>
            have HF := Lib.hid (HNE.out (fun h => e1 h.1))
            have dn : (kk != kk') = true := bne_iff_ne.2 e1
            clear e1
            go_wp2_with fail
            go_ret
            exact ⟨ret_b HF.out, Below.next HB.out BB.out⟩
          case pos =>
          by_cases e2 : i = i'
          case neg =>
            subst e1
            have HF := Lib.hid (HNE.out (fun h => e2 h.2.1))
            have dn : (i != i') = true := bne_iff_ne.2 e2
            clear e2
            go_wp2_with fail
            go_ret
            exact ⟨ret_b HF.out, Below.next HB.out BB.out⟩
          case pos =>
          by_cases e3 : o = o'
          case neg =>
            subst e1 e2
            have HF := Lib.hid (HNE.out (fun h => e3 h.2.2.1))
            have dn : (o != o') = true := bne_iff_ne.2 e3
            clear e3
            go_wp2_with fail
            go_ret
            exact ⟨ret_b HF.out, Below.next HB.out BB.out⟩
          case pos =>
          subst e1 e2 e3
          by_cases e4 : ws.map (canon .f32) = ws'.map (canon .f32)
          case neg =>
            have HF := Lib.hid (HNE.out (fun h => e4 h.2.2.2.1))
            rw [show sameB ws ws' = false from decide_eq_false e4] at HS0
            clear e4
            go_wp2_with fail
            refine (HS0.out _ BB.out).mono ?_
            rintro e w2 ⟨rfl, dn, rfl⟩
            go_wp2_with fail
            go_ret
            exact ⟨ret_b HF.out, below_drewN (Below.next HB.out BB.out) _⟩
          case pos =>
          rw [sameB_true e4] at HS0
          by_cases e5 : bs.map (canon .f32) = bs'.map (canon .f32)
          case neg =>
            have HF := Lib.hid (HNE.out (fun h => e5 h.2.2.2.2))
            rw [show sameB bs bs' = false from decide_eq_false e5] at HS1
            clear e4 e5
            go_wp2_with fail
            refine (HS0.out _ BB.out).mono ?_
            rintro e w2 ⟨rfl, dr⟩
            have bl := dr.below
            have B2' := Lib.hid (Below.next BB.out bl)
            obtain ⟨s0, s1, s2, s3, s4, s5⟩ := tbt5 (KA.out.below bl)
            obtain ⟨u0, u1, u2, u3, u4, u5⟩ := tbt5 (KB.out.below bl)
            clear dr bl
            go_wp2_with fail
            refine (HS1.out _ B2'.out).mono ?_
            rintro e w3 ⟨rfl, dr⟩
            have B3' := Lib.hid (Below.next (Below.next HB.out B2'.out) dr.below)
            clear dr
            go_wp2_with fail
            go_ret
            exact ⟨ret_b HF.out, B3'.out⟩
          case pos =>
            rw [sameB_true e5] at HS1
            have HQ := Lib.hid (show (⟨⟨kk, i, o, ws, bs⟩, a0, c0, a1, c1⟩ : LayA).p.can = (⟨⟨kk, i, o, ws', bs'⟩, a0', c0', a1', c1'⟩ : LayA).p.can from lay_can.2 ⟨rfl, rfl, rfl, e4, e5⟩)
            clear e4 e5
            go_wp2_with fail
            refine (HS0.out _ BB.out).mono ?_
            rintro e w2 ⟨rfl, dr⟩
            have bl := dr.below
            have B2' := Lib.hid (Below.next BB.out bl)
            obtain ⟨s0, s1, s2, s3, s4, s5⟩ := tbt5 (KA.out.below bl)
            obtain ⟨u0, u1, u2, u3, u4, u5⟩ := tbt5 (KB.out.below bl)
            clear dr bl
            go_wp2_with fail
            refine (HS1.out _ B2'.out).mono ?_
            rintro e w3 ⟨rfl, dr⟩
            have B3' := Lib.hid (Below.next (Below.next HB.out B2'.out) dr.below)
            clear dr
            go_wp2_with fail
            go_roundw
            case rel => exact ⟨k2 + 1, by omega, by go_num, map_take HE.out HX.out HX'.out HQ.out, B3'.out⟩
            case measure => simp [intOf]; omega
        · obtain rfl : k2 = n := by omega
          have HT := Lib.hid (show true = s by
            have h1 := HE.out
            rw [List.take_of_length_le (by rw [HN.out]; exact Nat.le_refl _), List.take_of_length_le (by rw [HN'.out]; exact Nat.le_refl _)] at h1
            rw [← HV3.out]
            exact (decide_eq_true h1).symm)
          go_wp2_with fail
          go_ret
          exact ⟨ret_b HT.out, HB.out⟩
end Go.Proofs.Ytlddonneccihiaa
