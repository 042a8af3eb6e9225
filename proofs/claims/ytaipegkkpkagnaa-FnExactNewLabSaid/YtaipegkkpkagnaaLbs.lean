/-
  ValidLab: the model and the program. Conditions: the cells can be read.
-/
import Derived.Test.YtaipegkkpkagnaaLbw
import Derived.Test.YtaipegkkpkagnaaVtr
namespace Go.Proofs.Ytaipegkkpkagnaa
open Go.RowKit Go.Deep Go.WideShapes Go.ChangeShapes Go.Maps
set_option linter.unusedVariables false
set_option linter.unusedSimpArgs false
attribute [local go_sem] World.drewN_zero

set_option maxHeartbeats 2000000 in
theorem c_l07DataL (g : Nat) (r c r' c' : Int) (a b : Option Addr) (n m ca cb : Nat) (hn : n ≤ 9223372036854775807) (hm : m ≤ 9223372036854775807) (w : World)
    (h0 : w.cell? ⟨g, 5, none⟩ = some (.int .i64 r)) (h1 : w.cell? ⟨g, 6, none⟩ = some (.int .i64 c)) (h2 : w.cell? ⟨g, 7, none⟩ = some (.slice a n ca))
    (h3 : w.cell? ⟨g, 8, none⟩ = some (.int .i64 r')) (h4 : w.cell? ⟨g, 9, none⟩ = some (.int .i64 c')) (h5 : w.cell? ⟨g, 10, none⟩ = some (.slice b m cb)) :
    Calls Try.prog 125 #[.pointer (some ⟨g, 5, none⟩)] w fun e w' => e = .returned (.bool (exaB r c r' c' n m)) ∧ Drawn w w' := by
  have C1 := fun W v (hb : vokB r c n = v) (e0 : W.cell? ⟨g, 5, none⟩ = some (.int .i64 r)) e1 e2 => c_l02Is g 5 r c a n ca v hb hn W e0 e1 e2
  have C2 := fun W v (hb : vokB r' c' m = v) (e0 : W.cell? ⟨g, 8, none⟩ = some (.int .i64 r')) e1 e2 => c_l02Is g 8 r' c' b m cb v hb hm W e0 e1 e2
  have D1 := Lib.hid C1
  have D2 := Lib.hid C2
  clear C1 C2
  cases e1 : vokB r c n with
  | false =>
    have E1 := Lib.hid e1
    have HB := Lib.hid (show exaB r c r' c' n m = false by rw [exaB, e1]; rfl)
    clear e1
    rw [HB.out]
    go_enter Try.func125, Try.ntmps125
    go_wp2
    go_quiet ((go_at_call 171; exact quiet_drawn (D1.out _ false E1.out (by go_simp) (by go_simp) (by go_simp))))
    go_wp2
    go_ret
    exact ⟨rfl, Drawn.mk _ _⟩
  | true =>
    have E1 := Lib.hid e1
    cases e2 : vokB r' c' m with
    | false =>
      have E2 := Lib.hid e2
      have HB := Lib.hid (show exaB r c r' c' n m = false by rw [exaB, e1, e2]; rfl)
      clear e1 e2
      rw [HB.out]
      go_enter Try.func125, Try.ntmps125
      go_wp2
      go_quiet ((first | (go_at_call_of 171 (Value.pointer (some ⟨g, 5, none⟩)); exact quiet_drawn (D1.out _ true E1.out (by go_simp) (by go_simp) (by go_simp))) | (go_at_call_of 171 (Value.pointer (some ⟨g, 8, none⟩)); exact quiet_drawn (D2.out _ false E2.out (by go_simp) (by go_simp) (by go_simp)))))
      go_wp2
      go_ret
      exact ⟨rfl, Drawn.mk _ _⟩
    | true =>
      have E2 := Lib.hid e2
      cases e3 : (r == r') with
      | false =>
        have HB := Lib.hid (show exaB r c r' c' n m = false by rw [exaB, e1, e2, e3]; rfl)
        clear e1 e2
        rw [HB.out]
        go_enter Try.func125, Try.ntmps125
        go_wp2
        go_quiet ((first | (go_at_call_of 171 (Value.pointer (some ⟨g, 5, none⟩)); exact quiet_drawn (D1.out _ true E1.out (by go_simp) (by go_simp) (by go_simp))) | (go_at_call_of 171 (Value.pointer (some ⟨g, 8, none⟩)); exact quiet_drawn (D2.out _ true E2.out (by go_simp) (by go_simp) (by go_simp)))))
        go_wp2
        go_ret
        exact ⟨rfl, Drawn.mk _ _⟩
      | true =>
        have HB := Lib.hid (show exaB r c r' c' n m = true by rw [exaB, e1, e2, e3]; rfl)
        clear e1 e2
        rw [HB.out]
        go_enter Try.func125, Try.ntmps125
        go_wp2
        go_quiet ((first | (go_at_call_of 171 (Value.pointer (some ⟨g, 5, none⟩)); exact quiet_drawn (D1.out _ true E1.out (by go_simp) (by go_simp) (by go_simp))) | (go_at_call_of 171 (Value.pointer (some ⟨g, 8, none⟩)); exact quiet_drawn (D2.out _ true E2.out (by go_simp) (by go_simp) (by go_simp)))))
        go_wp2
        go_ret
        exact ⟨rfl, Drawn.mk _ _⟩
set_option maxRecDepth 20000 in
set_option maxHeartbeats 4000000 in
theorem c_l07IsL (go gt : Nat) (k : Int) (q : TrsA) (w : World) (h : TrsAt w q) (hk : w.cell? ⟨go, 0, none⟩ = some (.int .i64 k)) (o0 o1 o2 o3 o4 o5 o6 o7 o8 o9 o10 : Value) (K : Blk w gt 50 #[o0, o1, o2, o3, o4, o5, o6, o7, o8, o9, o10, .slice q.g q.ls.length q.c, .slice q.h q.ss.length q.d, .int .i64 q.st, .int .i64 q.sd, .float .f32 q.sc]) :
    Calls Try.prog 126 #[.pointer (some ⟨go, 0, none⟩), .pointer (some ⟨gt, 11, none⟩)] w fun e w' => e = .returned (.bool (vTrs k q)) ∧ Below w.heap.size w w' := by
  obtain ⟨g, c, ls, g', c', ss, st, sd, sc⟩ := q
  simp only [TrsAt] at h
  obtain ⟨a1, a2, _⟩ := h
  simp only at K
  have HGO := Lib.hid (cell_block hk)
  have HKC := Lib.hid hk
  obtain ⟨v, hv⟩ : ∃ v, vTrs k ⟨g, c, ls, g', c', ss, st, sd, sc⟩ = v := ⟨_, rfl⟩
  have HV := Lib.hid (show (isKind k && (vMod (ls.map LayA.p) && (isStepV st && (isSeedV sd && (decide (laySum (ls.map LayA.p) ≤ 256) && fitS k ss ((laySum (ls.map LayA.p) : Nat) : Int)))))) = v from hv)
  rw [hv]
  clear hv
  obtain ⟨n, hn⟩ : ∃ n, ls.length = n := ⟨_, rfl⟩
  obtain ⟨m, hm⟩ : ∃ m, ss.length = m := ⟨_, rfl⟩
  have HN := Lib.hid hn
  rw [hn] at K a1
  rw [hm] at K a2
  obtain ⟨u1, h1⟩ : ∃ u, isKind k = u := ⟨_, rfl⟩
  obtain ⟨u2, h2⟩ : ∃ u, vMod (ls.map LayA.p) = u := ⟨_, rfl⟩
  obtain ⟨u3, h3⟩ : ∃ u, isStepV st = u := ⟨_, rfl⟩
  obtain ⟨u4, h4⟩ : ∃ u, isSeedV sd = u := ⟨_, rfl⟩
  have HK := fun W h => c_l05Is go k W h
  have HM := Lib.hid (fun W (hb : Below w.heap.size w W) hq => c_l03Is gt 11 g c n ls u2 h2 W hq (a1.kept hb))
  have HI := Lib.hid (fun W => c_l00In st 0 1000 u3 h3 W)
  have HS := fun W => c_l07Seed sd W
  have HF := Lib.hid (fun N W (hb : Below w.heap.size w W) h => c_l05Fit go k N g' m c' ss W (a2.kept hb) h)
  have HVM := Lib.hid h2
  simp only [h1] at HK
  simp only [h4] at HS
  rw [h1, h2, h3, h4] at HV
  have HK' := Lib.hid HK
  have HS' := Lib.hid HS
  have A1 := Lib.hid a1
  have KK := Lib.hid K
  clear h1 h2 h3 h4 HK HS hn hm a1 a2 K
  cases u1 with
  | false =>
    have HE := Lib.hid (show false = v from HV.out)
    go_enter Try.func126, Try.ntmps126
    go_wp2_with fail
    refine (HK'.out _ hk).mono ?_
    rintro e w2 ⟨rfl, rfl⟩
    go_wp2_with fail
    go_ret
    exact ⟨ret_b HE.out, Below.refl _ _⟩
  | true =>
  obtain ⟨_, _, _, _, _, _, _, _, _, _, _, p0, p1, p2, p3, p4, p5⟩ := tb16 KK.out
  cases u2 with
  | false =>
    have HE := Lib.hid (show false = v from HV.out)
    go_enter Try.func126, Try.ntmps126
    go_wp2_with fail
    refine (HK'.out _ hk).mono ?_
    rintro e w2 ⟨rfl, rfl⟩
    go_wp2_with fail
    refine (HM.out _ (Below.refl _ _) p0).mono ?_
    rintro e w2 ⟨rfl, dn⟩
    have B2 := Lib.hid dn.below
    clear dn
    go_wp2_with fail
    go_ret
    exact ⟨ret_b HE.out, B2.out⟩
  | true =>
  cases u3 with
  | false =>
    have HE := Lib.hid (show false = v from HV.out)
    go_enter Try.func126, Try.ntmps126
    go_wp2_with fail
    refine (HK'.out _ hk).mono ?_
    rintro e w2 ⟨rfl, rfl⟩
    go_wp2_with fail
    refine (HM.out _ (Below.refl _ _) p0).mono ?_
    rintro e w2 ⟨rfl, dn⟩
    have B2 := Lib.hid dn.below
    clear dn p0 p1 p2 p3 p4 p5
    obtain ⟨_, _, _, _, _, _, _, _, _, _, _, p0, p1, p2, p3, p4, p5⟩ := tb16 (KK.out.below B2.out)
    go_wp2_with fail
    refine (HI.out _).mono ?_
    rintro e w3 ⟨rfl, rfl⟩
    go_wp2_with fail
    go_ret
    exact ⟨ret_b HE.out, B2.out⟩
  | true =>
  cases u4 with
  | false =>
    have HE := Lib.hid (show false = v from HV.out)
    go_enter Try.func126, Try.ntmps126
    go_wp2_with fail
    refine (HK'.out _ hk).mono ?_
    rintro e w2 ⟨rfl, rfl⟩
    go_wp2_with fail
    refine (HM.out _ (Below.refl _ _) p0).mono ?_
    rintro e w2 ⟨rfl, dn⟩
    have B2 := Lib.hid dn.below
    clear dn p0 p1 p2 p3 p4 p5
    obtain ⟨_, _, _, _, _, _, _, _, _, _, _, p0, p1, p2, p3, p4, p5⟩ := tb16 (KK.out.below B2.out)
    go_wp2_with fail
    refine (HI.out _).mono ?_
    rintro e w3 ⟨rfl, rfl⟩
    go_wp2_with fail
    refine (HS'.out _).mono ?_
    rintro e w3 ⟨rfl, rfl⟩
    go_wp2_with fail
    go_ret
    exact ⟨ret_b HE.out, B2.out⟩
  | true =>
    obtain ⟨v1, v2, v3⟩ := vMod_parts HVM.out
    have hn6 : n ≤ 6 := by rw [← HN.out]; simpa using v2
    have HPL := Lib.hid (parOf_length (ls.map LayA.p))
    have HP := Lib.hid (fun W (hb : Below w.heap.size w W) hgp hq => c_l03Params gt 11 g c n ls W hgp hq (A1.out.kept hb) v3 hn6)
    obtain ⟨N, hN⟩ : ∃ N, laySum (ls.map LayA.p) = N := ⟨_, rfl⟩
    rw [hN] at HPL HV v3
    clear v1 v2 hN
    obtain ⟨Z, hZ⟩ : ∃ Z, parOf (ls.map LayA.p) = Z := ⟨_, rfl⟩
    rw [hZ] at HP HPL
    clear hZ hn6
    obtain ⟨zl, hzl⟩ : ∃ l, Z.length = l := ⟨_, rfl⟩
    have HZL := Lib.hid hzl
    have HZN := Lib.hid (show zl = N by rw [← hzl]; exact HPL.out)
    have hz4 : zl ≤ 432 := by have := HZN.out; omega
    clear hzl HPL v3
    go_enter Try.func126, Try.ntmps126
    go_wp2_with fail
    refine (HK'.out _ hk).mono ?_
    rintro e w2 ⟨rfl, rfl⟩
    go_wp2_with fail
    refine (HM.out _ (Below.refl _ _) p0).mono ?_
    rintro e w2 ⟨rfl, dn⟩
    have B2 := Lib.hid dn.below
    clear dn p0 p1 p2 p3 p4 p5
    obtain ⟨_, _, _, _, _, _, _, _, _, _, _, p0, p1, p2, p3, p4, p5⟩ := tb16 (KK.out.below B2.out)
    go_wp2_with fail
    refine (HI.out _).mono ?_
    rintro e w3 ⟨rfl, rfl⟩
    go_wp2_with fail
    refine (HS'.out _).mono ?_
    rintro e w3 ⟨rfl, rfl⟩
    go_wp2_with fail
    refine (HP.out _ B2.out p5 p0).mono ?_
    rintro e w4 ⟨za, zc, rfl, ho, hb⟩
    have B4 := Lib.hid (Below.next B2.out hb)
    clear hb ho p0 p1 p2 p3 p4 p5
    rw [HZL.out]
    obtain ⟨_, _, _, _, _, _, _, _, _, _, _, p0, p1, p2, p3, p4, p5⟩ := tb16 (KK.out.below B4.out)
    have hk4 := (B4.out.cell (p := ⟨go, 0, none⟩) HGO.out).trans HKC.out
    by_cases h256 : zl ≤ 256
    · have hz2 : (zl : Int) ≤ 256 := by omega
      have HE := Lib.hid (show fitS k ss ((zl : Nat) : Int) = v by have h1 := HV.out; rw [← HZN.out, decide_eq_true h256] at h1; simpa using h1)
      clear h256
      go_wp2_with fail
      refine (HF.out _ _ B4.out hk4).mono ?_
      rintro e w5 ⟨rfl, rfl⟩
      go_wp2_with fail
      go_ret
      exact ⟨ret_b HE.out, B4.out⟩
    · have HE := Lib.hid (show false = v by have h1 := HV.out; rw [← HZN.out, decide_eq_false h256] at h1; simpa using h1)
      have hz2 : decide ((zl : Int) ≤ 256) = false := decide_eq_false (by omega)
      clear h256
      go_wp2_with fail
      go_ret
      exact ⟨ret_b HE.out, B4.out⟩
theorem fitS_ofL {k : Int} {ls ls' : List FlA} {N : Int} (h : ls.map FlA.z = ls'.map FlA.z) : fitS k ls N = fitS k ls' N := by
  have hl : ls.length = ls'.length := by simpa using congrArg List.length h
  have ha : ∀ xs : List FlA, xs.all (lenB N) = (xs.map FlA.z).all (fun z => (z.length : Int) == N) := fun xs => by
    rw [List.all_map]; rfl
  unfold fitS
  rw [hl, ha, ha, h]
theorem vTrs_ofL (k : Int) {r q : TrsA} (h : TrsEq r q) : vTrs k r = vTrs k q := by
  unfold vTrs
  rw [h.1, h.2.2.1, h.2.2.2.1, fitS_ofL (show r.ss.map FlA.z = q.ss.map FlA.z from h.2.1)]
def vLab (x : LabA) : Bool := exaB x.er x.ec x.er2 x.ec2 x.ex.length x.ey.length && vTrs x.k x.q
theorem vLab_of {y x : LabA} (h : LabEq y x) : vLab y = vLab x := by
  obtain ⟨⟨q1, _⟩, ⟨q6, q7, q8, q9, q10, q11⟩, hte⟩ := h
  unfold vLab
  rw [q1, q6, q7, q8, q9, q10, q11, vTrs_ofL _ hte]
theorem LabEq.symm {y x : LabA} (h : LabEq y x) : LabEq x y := by
  obtain ⟨⟨q1, q2, q3, q4, q5⟩, ⟨q6, q7, q8, q9, q10, q11⟩, hte⟩ := h
  exact ⟨⟨q1.symm, q2.symm, q3.symm, q4.symm, q5.symm⟩, ⟨q6.symm, q7.symm, q8.symm, q9.symm, q10.symm, q11.symm⟩, hte.symm⟩
theorem LabEq.trans {z y x : LabA} (h : LabEq z y) (k : LabEq y x) : LabEq z x := by
  obtain ⟨⟨q1, q2, q3, q4, q5⟩, ⟨q6, q7, q8, q9, q10, q11⟩, hte⟩ := h
  obtain ⟨⟨p1, p2, p3, p4, p5⟩, ⟨p6, p7, p8, p9, p10, p11⟩, hte'⟩ := k
  exact ⟨⟨q1.trans p1, q2.trans p2, q3.trans p3, q4.trans p4, q5.trans p5⟩, ⟨q6.trans p6, q7.trans p7, q8.trans p8, q9.trans p9, q10.trans p10, q11.trans p11⟩, hte.trans hte'⟩
set_option maxRecDepth 20000 in
set_option maxHeartbeats 4000000 in
theorem c_l11Is (g : Nat) (x : LabA) (w : World) (hx : LabAt w x) (hK : Blk w g 50 x.cells) :
    Calls Try.prog 60 #[.pointer (some ⟨g, 0, none⟩)] w fun e w' => e = .returned (.bool (vLab x)) ∧ Below w.heap.size w w' := by
  obtain ⟨k, r, b1, b2, ep, er, ec, er2, ec2, ex, ey, ea, eb, eca, ecb, q⟩ := x
  unfold LabA.cells at hK
  simp only [LabAt] at hx hK
  obtain ⟨⟨x1, x2⟩, x3, wk⟩ := hx
  have m1 : ex.length ≤ 9223372036854775807 := by have h1 := x1.1; have h2 := x1.2.1; unfold maxLen at h2; omega
  have m2 : ey.length ≤ 9223372036854775807 := by have h1 := x2.1; have h2 := x2.2.1; unfold maxLen at h2; omega
  have D1 := Lib.hid (fun (W : World) (hb : Below w.heap.size w W) => by
    obtain ⟨p0, p1, p2, p3, p4, p5, p6, p7, p8, p9, p10, p11, p12, p13, p14, p15, pl⟩ := tb16 (hK.below hb)
    exact (c_l07DataL g er ec er2 ec2 ea eb ex.length ey.length eca ecb m1 m2 W p5 p6 p7 p8 p9 p10).mono fun e w' ⟨he, hd⟩ => And.intro he hd.below)
  have D2 := Lib.hid (fun (W : World) (hb : Below w.heap.size w W) => by
    obtain ⟨p0, p1, p2, p3, p4, p5, p6, p7, p8, p9, p10, p11, p12, p13, p14, p15, pl⟩ := tb16 (hK.below hb)
    exact c_l07IsL g g k q W (x3.kept hb) p0 _ _ _ _ _ _ _ _ _ _ _ (hK.below hb))
  have HV := Lib.hid (show vLab ⟨k, r, b1, b2, ep, er, ec, er2, ec2, ex, ey, ea, eb, eca, ecb, q⟩ = (exaB er ec er2 ec2 ex.length ey.length && vTrs k q) from rfl)
  rw [HV.out]
  obtain ⟨u1, h1⟩ : ∃ u, exaB er ec er2 ec2 ex.length ey.length = u := ⟨_, rfl⟩
  obtain ⟨u2, h2⟩ : ∃ u, vTrs k q = u := ⟨_, rfl⟩
  rw [h1] at D1 ⊢
  rw [h2] at D2 ⊢
  clear x1 x2 x3 hK m1 m2 h1 h2 wk HV
  cases u1 with
  | false =>
    go_enter Try.func60, Try.ntmps60
    go_wp2_with fail
    refine wp_region_quiet_below (by kernel_rfl) (by kernel_rfl) ?_
    repeat (go_big_quiet_step ((go_at_call 125; exact Calls.regrown_of (D1.out _ (below_regrown w _ _)))))
    refine wpQuiet_nil ?_
    intro _ hw'
    obtain ⟨⟨dq, osq⟩, hw''⟩ := hw'
    subst hw''
    have HB2 := Lib.hid (below_regrown w dq osq)
    generalize Sort.grow (redrawn w dq) osq = w2 at HB2 ⊢
    go_wp2_with fail
    go_ret
    exact ⟨rfl, HB2.out⟩
  | true =>
    go_enter Try.func60, Try.ntmps60
    go_wp2_with fail
    refine wp_region_quiet_below (by kernel_rfl) (by kernel_rfl) ?_
    repeat (go_big_quiet_step ((first | (go_at_call 125; exact Calls.regrown_of (D1.out _ (below_regrown w _ _))) | (go_at_call 126; exact Calls.regrown_of (D2.out _ (below_regrown w _ _))))))
    refine wpQuiet_nil ?_
    intro _ hw'
    obtain ⟨⟨dq, osq⟩, hw''⟩ := hw'
    subst hw''
    have HB2 := Lib.hid (below_regrown w dq osq)
    generalize Sort.grow (redrawn w dq) osq = w2 at HB2 ⊢
    go_wp2_with fail
    go_ret
    exact ⟨rfl, HB2.out⟩
theorem t_sValidLab (x : LabA) (w : World) (hx : LabAt w x) : Calls Try.prog 13 #[.agg x.cells] w (RetB (vLab x) w) := by
  have bl : Below w.heap.size w (w.alloc (.cells x.cells 50)) := (Below.refl _ _).alloc (Nat.le_refl _) _
  have D := Lib.hid (c_l11Is w.heap.size x _ (hx.kept bl) (Blk.new w _ _))
  have B := Lib.hid bl
  obtain ⟨k, r, b1, b2, ep, er, ec, er2, ec2, ex, ey, ea, eb, eca, ecb, q⟩ := x
  obtain ⟨u, hu⟩ : ∃ u, vLab ⟨k, r, b1, b2, ep, er, ec, er2, ec2, ex, ey, ea, eb, eca, ecb, q⟩ = u := ⟨_, rfl⟩
  rw [hu] at D ⊢
  unfold LabA.cells at D B ⊢
  simp only at D B ⊢
  clear hx bl hu
  go_enter Try.func13, Try.ntmps13
  go_wp2_with fail
  refine D.out.mono ?_
  rintro e w2 ⟨rfl, hb⟩
  have B2 := Lib.hid (Below.next B.out hb)
  clear hb
  go_wp2_with fail
  go_ret
  exact ⟨rfl, B2.out⟩
set_option maxRecDepth 20000 in
set_option maxHeartbeats 2000000 in
theorem t_iValidLab (x : LabA) (w : World) (hx : LabAt w x) : Calls Try.prog 15 #[.agg x.cells] w (RetB (vLab x) w) := by
  obtain ⟨k, r, b1, b2, ep, er, ec, er2, ec2, ex, ey, ea, eb, eca, ecb, ⟨g, c, ls, h, d, ss, st, sd, sc⟩⟩ := x
  obtain ⟨T, hT⟩ : ∃ T : TrsA, (⟨g, c, ls, h, d, ss, st, sd, sc⟩ : TrsA) = T := ⟨_, rfl⟩
  have HV : vLab ⟨k, r, b1, b2, ep, er, ec, er2, ec2, ex, ey, ea, eb, eca, ecb, ⟨g, c, ls, h, d, ss, st, sd, sc⟩⟩ = (exaB er ec er2 ec2 ex.length ey.length && vTrs k T) := by rw [← hT]; rfl
  rw [HV]
  simp only [LabAt] at hx
  obtain ⟨_, x3, wk⟩ := hx
  rw [hT] at x3
  have X3 := Lib.hid x3
  have WK := Lib.hid wk
  have HC0 := Lib.hid (show Value.agg #[.slice g ls.length c, .slice h ss.length d, .int .i64 st, .int .i64 sd, .float .f32 sc] = .agg T.cells by rw [← hT]; rfl)
  have HO0 := Lib.hid (show Value.agg #[.int .i64 k, .float .f32 r, .float .f32 b1, .float .f32 b2, .float .f32 ep] = optV k r b1 b2 ep from rfl)
  have D1 := Lib.hid (fun W => c_iValidExa er ec er2 ec2 ea eb ex.length ey.length eca ecb W)
  have D2 := Lib.hid (fun W (hb : Below w.heap.size w W) => t_iValidTraining k r b1 b2 ep T W (X3.out.kept hb) WK.out)
  obtain ⟨u1, h1⟩ : ∃ u, exaB er ec er2 ec2 ex.length ey.length = u := ⟨_, rfl⟩
  obtain ⟨u2, h2⟩ : ∃ u, vTrs k T = u := ⟨_, rfl⟩
  rw [h1] at D1 ⊢
  rw [h2] at D2 ⊢
  rw [← HC0.out, ← HO0.out] at D2
  unfold LabA.cells
  simp only
  clear x3 wk hT HV h1 h2
  have K := Lib.hid (Blk.new w 50 #[.int .i64 k, .float .f32 r, .float .f32 b1, .float .f32 b2, .float .f32 ep, .int .i64 er, .int .i64 ec, .slice ea ex.length eca, .int .i64 er2, .int .i64 ec2, .slice eb ey.length ecb, .slice g ls.length c, .slice h ss.length d, .int .i64 st, .int .i64 sd, .float .f32 sc])
  have B := Lib.hid ((Below.refl w.heap.size w).alloc (Nat.le_refl _) (.cells #[.int .i64 k, .float .f32 r, .float .f32 b1, .float .f32 b2, .float .f32 ep, .int .i64 er, .int .i64 ec, .slice ea ex.length eca, .int .i64 er2, .int .i64 ec2, .slice eb ey.length ecb, .slice g ls.length c, .slice h ss.length d, .int .i64 st, .int .i64 sd, .float .f32 sc] 50))
  go_enter Try.func15, Try.ntmps15
  go_wp2_with fail
  generalize w.alloc (.cells #[.int .i64 k, .float .f32 r, .float .f32 b1, .float .f32 b2, .float .f32 ep, .int .i64 er, .int .i64 ec, .slice ea ex.length eca, .int .i64 er2, .int .i64 ec2, .slice eb ey.length ecb, .slice g ls.length c, .slice h ss.length d, .int .i64 st, .int .i64 sd, .float .f32 sc] 50) = w1 at K B ⊢
  obtain ⟨p0, p1, p2, p3, p4, p5, p6, p7, p8, p9, p10, p11, p12, p13, p14, p15, pl⟩ := tb16 K.out
  try go_wp2_with fail
  refine (D1.out _).mono ?_
  rintro e w2 ⟨rfl, hb⟩
  have K2 := Lib.hid (K.out.below hb)
  have B2 := Lib.hid (Below.next B.out hb)
  clear hb p0 p1 p2 p3 p4 p5 p6 p7 p8 p9 p10 p11 p12 p13 p14 p15 pl
  obtain ⟨p0, p1, p2, p3, p4, p5, p6, p7, p8, p9, p10, p11, p12, p13, p14, p15, pl⟩ := tb16 K2.out
  cases u1 with
  | false =>
    go_wp2_with fail
    go_ret
    exact ⟨rfl, B2.out⟩
  | true =>
    go_wp2_with fail
    refine (D2.out _ B2.out).mono ?_
    rintro e w3 ⟨rfl, hb⟩
    have B3 := Lib.hid (Below.next B2.out hb)
    clear hb p0 p1 p2 p3 p4 p5 p6 p7 p8 p9 p10 p11 p12 p13 p14 p15 pl
    go_wp2_with fail
    go_ret
    exact ⟨by cases u2 <;> rfl, B3.out⟩
end Go.Proofs.Ytaipegkkpkagnaa
