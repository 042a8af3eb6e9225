/-
  AreInSync: when models are in sync, as the model and the program say it. Conditions: the cells can be read.
-/
import Derived.Test.YtaipegkkpkagnaaMdl
import Derived.Test.YtaipegkkpkagnaaVMod
import Derived.Test.YtaipegkkpkagnaaPar
import Derived.Test.YtaipegkkpkagnaaSmi
namespace Go.Proofs.Ytaipegkkpkagnaa
open Go.RowKit Go.Deep Go.WideShapes Go.ChangeShapes
set_option linter.unusedVariables false
set_option linter.unusedSimpArgs false

def shp (p : LayP) : Int × Int × Int := (p.k, p.i, p.o)
def sameP (ps qs : List LayP) : Bool := decide (ps.map LayP.can = qs.map LayP.can)
def syncOne (m0 m : List LayP) : Bool := vMod m && sameP m m0
def vAreInSync (ms : List (List LayP)) : Bool := (decide (1 ≤ ms.length) && decide (ms.length ≤ 8)) && ms.all (syncOne (ms.getD 0 []))
theorem sameP_comm (ps qs : List LayP) : sameP ps qs = sameP qs ps := by
  unfold sameP
  by_cases h : ps.map LayP.can = qs.map LayP.can
  · rw [decide_eq_true h, decide_eq_true h.symm]
  · rw [decide_eq_false h, decide_eq_false (fun e => h e.symm)]
theorem vMod_ones {ps : List LayP} (h : vMod ps = true) : ∀ p ∈ ps, vOne p = true := by
  simp only [vMod, Bool.and_eq_true, decide_eq_true_eq] at h
  intro p hp
  obtain ⟨i, hi, rfl⟩ := List.mem_iff_getElem.1 hp
  exact okUp_all _ h.2 i _ hi (List.getElem?_eq_getElem hi)
theorem one_lens {p q : LayP} (h : vOne p = true) (k : vOne q = true) (e : shp p = shp q) : p.ws.length = q.ws.length ∧ p.bs.length = q.bs.length := by
  obtain ⟨_, _, _, _, h5, h6⟩ := (vLay_iff _ _ _ _ _).1 h
  obtain ⟨_, _, _, _, k5, k6⟩ := (vLay_iff _ _ _ _ _).1 k
  simp only [shp, Prod.mk.injEq] at e
  rw [e.1, e.2.1, e.2.2] at h5 h6
  constructor <;> omega
theorem parOf_cons (p : LayP) (ps : List LayP) : parOf (p :: ps) = p.ws ++ p.bs ++ parOf ps := rfl
theorem same_of : ∀ {ps qs : List LayP}, (∀ p ∈ ps, vOne p = true) → (∀ p ∈ qs, vOne p = true) → ps.map shp = qs.map shp → ((parOf ps).map (canon .f32) = (parOf qs).map (canon .f32) ↔ ps.map LayP.can = qs.map LayP.can)
  | [], [], _, _, _ => by simp
  | [], _ :: _, _, _, h => by simp at h
  | _ :: _, [], _, _, h => by simp at h
  | p :: ps, q :: qs, h1, h2, h => by
    simp only [List.map_cons, List.cons.injEq] at h
    obtain ⟨l1, l2⟩ := one_lens (h1 p (List.mem_cons_self ..)) (h2 q (List.mem_cons_self ..)) h.1
    have ih := same_of (fun x hx => h1 x (List.mem_cons_of_mem _ hx)) (fun x hx => h2 x (List.mem_cons_of_mem _ hx)) h.2
    have hs := h.1
    simp only [shp, Prod.mk.injEq] at hs
    obtain ⟨k, i, o, ws, bs⟩ := p
    obtain ⟨k', i', o', ws', bs'⟩ := q
    simp only at hs l1 l2
    obtain ⟨rfl, rfl, rfl⟩ := hs
    simp only [parOf_cons, List.map_append, List.map_cons, List.cons.injEq, LayP.can, LayP.mk.injEq, true_and]
    constructor
    · intro e
      obtain ⟨e1, e2⟩ := List.append_inj e (by simp [l1, l2])
      obtain ⟨e3, e4⟩ := List.append_inj e1 (by simp [l1])
      exact ⟨⟨e3, e4⟩, ih.1 e2⟩
    · rintro ⟨⟨e3, e4⟩, e2⟩
      rw [e3, e4, ih.2 e2]
theorem shp_can {ps qs : List LayP} (h : ps.map LayP.can = qs.map LayP.can) : ps.map shp = qs.map shp := by
  have h1 := congrArg (List.map shp) h
  rw [List.map_map, List.map_map] at h1
  exact h1
theorem sameP_no {ps qs : List LayP} (h : ps.map shp ≠ qs.map shp) : sameP ps qs = false := decide_eq_false fun e => h (shp_can e)
theorem sameP_par {ps qs : List LayP} (h1 : vMod ps = true) (h2 : vMod qs = true) (h : ps.map shp = qs.map shp) : sameB (parOf ps) (parOf qs) = sameP ps qs := by
  have hi := same_of (vMod_ones h1) (vMod_ones h2) h
  unfold sameP
  by_cases e : (parOf ps).map (canon .f32) = (parOf qs).map (canon .f32)
  · rw [sameB_true e, decide_eq_true (hi.1 e)]
  · rw [show sameB (parOf ps) (parOf qs) = false from decide_eq_false e, decide_eq_false (fun k => e (hi.2 k))]
theorem shp_ne {ls ls' : List LayA} {k : Nat} {x y : LayA} (hx : ls[k]? = some x) (hy : ls'[k]? = some y) (hne : ¬ (x.p.k = y.p.k ∧ x.p.i = y.p.i ∧ x.p.o = y.p.o)) : (ls.map LayA.p).map shp ≠ (ls'.map LayA.p).map shp := by
  intro e
  have h1 : ((ls.map LayA.p).map shp)[k]? = ((ls'.map LayA.p).map shp)[k]? := by rw [e]
  simp only [List.getElem?_map, hx, hy, Option.map_some, Option.some.injEq, shp, Prod.mk.injEq] at h1
  exact hne h1
def L10Rel (ls ls' : List LayA) (n : Nat) (w : World) (i : Value) (wr : World) : Prop := ∃ k : Nat, k ≤ n ∧ i = .int .i64 k ∧ ((ls.take k).map LayA.p).map shp = ((ls'.take k).map LayA.p).map shp ∧ Below w.heap.size w wr
theorem l10_next {ls ls' : List LayA} {k : Nat} {x y : LayA} (h : ((ls.take k).map LayA.p).map shp = ((ls'.take k).map LayA.p).map shp) (hx : ls[k]? = some x) (hy : ls'[k]? = some y) (e1 : x.p.k = y.p.k) (e2 : x.p.i = y.p.i) (e3 : x.p.o = y.p.o) :
    ((ls.take (k + 1)).map LayA.p).map shp = ((ls'.take (k + 1)).map LayA.p).map shp := by
  rw [List.take_add_one, List.take_add_one, hx, hy, List.map_append, List.map_append, List.map_append, List.map_append, h]
  simp [shp, e1, e2, e3]
theorem c_SameAllA (a b : Option Addr) (ca cb : Nat) (xs ys : List Nat) (w : World) (ha : IsFloats .f32 w a xs.length ca xs) (hb : IsFloats .f32 w b ys.length cb ys) :
    Calls Try.prog 148 #[.slice a xs.length ca, .slice b ys.length cb] w fun e w' => e = .returned (.bool (sameB xs ys)) ∧ Drawn w w' := by
  by_cases hl : xs.length = ys.length
  · have h := c_l01SameAll a b ca cb xs ys ys.length w (by rw [← hl]; rw [← hl] at hb; exact ha) hb
    rw [hl]
    exact h
  · have hx : xs.length ≤ 9223372036854775807 := by have h1 := ha.1; have h2 := ha.2.1; unfold maxLen at h2; omega
    have hy : ys.length ≤ 9223372036854775807 := by have h1 := hb.1; have h2 := hb.2.1; unfold maxLen at h2; omega
    have hs : sameB xs ys = false := decide_eq_false (map_len hl)
    have hne : ¬ (xs.length : Int) = (ys.length : Int) := by omega
    rw [hs]
    clear ha hb hs hl
    go_enter Try.func148, Try.ntmps148
    go_wp2_with fail
    go_ret
    exact ⟨rfl, 0, by rw [World.drewN_zero]⟩
set_option maxRecDepth 100000 in
set_option maxHeartbeats 4000000 in
theorem c_l10Same (gp op gp' op' : Nat) (g g' : Option Addr) (c c' : Nat) (ls ls' : List LayA) (w : World) (hgp : gp < w.heap.size) (hgp' : gp' < w.heap.size) (hq : w.cell? ⟨gp, op, none⟩ = some (.slice g ls.length c)) (hq' : w.cell? ⟨gp', op', none⟩ = some (.slice g' ls'.length c'))
    (h : LaysAt w g ls.length c ls) (h' : LaysAt w g' ls'.length c' ls') (hv : vMod (ls.map LayA.p) = true) (hv' : vMod (ls'.map LayA.p) = true) :
    Calls Try.prog 85 #[.pointer (some ⟨gp, op, none⟩), .pointer (some ⟨gp', op', none⟩)] w fun e w' => e = .returned (.bool (sameP (ls.map LayA.p) (ls'.map LayA.p))) ∧ Below w.heap.size w w' := by
  obtain ⟨v1, v2, v3⟩ := vMod_parts hv
  obtain ⟨v1', v2', v3'⟩ := vMod_parts hv'
  rw [List.length_map] at v1 v2 v1' v2'
  have HV := Lib.hid hv
  have HV' := Lib.hid hv'
  have H := Lib.hid h
  have H' := Lib.hid h'
  have V3 := Lib.hid v3
  have V3' := Lib.hid v3'
  have G1 := Lib.hid hgp
  have G2 := Lib.hid hgp'
  have Q1 := Lib.hid hq
  have Q2 := Lib.hid hq'
  by_cases hl : ls.length = ls'.length
  case neg =>
    have HS := Lib.hid (sameP_no (ps := ls.map LayA.p) (qs := ls'.map LayA.p) (fun e => hl (by simpa using congrArg List.length e)))
    have hne : ((ls.length : Int) == (ls'.length : Int)) = false := beq_eq_false_iff_ne.2 (by omega)
    have hne2 : ((ls.length : Int) != (ls'.length : Int)) = true := bne_iff_ne.2 (by omega)
    clear h h' hv hv' v3 v3' hgp hgp'
    go_enter Try.func85, Try.ntmps85
    go_wp2_with fail
    go_quiet ((fail))
    go_wp2_with fail
    go_ret
    exact ⟨ret_b HS.out.symm, below_drewN (Below.refl _ _) _⟩
  case pos =>
  obtain ⟨n, hn⟩ : ∃ n, ls.length = n := ⟨_, rfl⟩
  have HN := Lib.hid hn
  have HN' := Lib.hid (hl.symm.trans hn)
  rw [← hl, hn] at hq'
  rw [hn] at hq v2
  clear h h' hv hv' v3 v3' hgp hgp' hl hn v1 v1' v2'
  go_enter Try.func85, Try.ntmps85
  go_wp2_with fail
  go_quiet ((fail))
  go_wp2_with fail
  have B0 := Lib.hid (below_drewN (Below.refl w.heap.size w) nq)
  generalize w.drewN nq = w1 at B0 ⊢
  clear hq hq'
  go_loopw [5] (fun iv wr => L10Rel ls ls' n w iv wr) (fun iv _ => n - (intOf iv).toNat)
  case atStart => exact ⟨0, Nat.zero_le _, rfl, rfl, B0.out⟩
  case round =>
    obtain ⟨k, hk, rfl, he, hb⟩ := hrel
    have HE := Lib.hid he
    have HB := Lib.hid hb
    have hk0 : (0 : Int) ≤ (k : Int) := by omega
    have p0 : wr.cell? ⟨gp, op, none⟩ = some (.slice g n c) := (hb.cell G1.out).trans (by rw [← HN.out]; exact Q1.out)
    have q0 : wr.cell? ⟨gp', op', none⟩ = some (.slice g' n c') := (hb.cell G2.out).trans (by rw [← HN'.out]; exact Q2.out)
    clear he hb
    by_cases hlt : k < n
    · have hlt' : (k : Int) < (n : Int) := by omega
      have hat := H.out.kept HB.out
      have hat' := H'.out.kept HB.out
      rw [HN.out] at hat
      rw [HN'.out] at hat'
      obtain ⟨b, off, kd, ii, oo, ws, bs, a0, c0, a1, c1, rfl, hbk, hx, r0, r1, r2, r3, r4, f0, f1⟩ := hat.one hlt
      obtain ⟨b', off', kd', ii', oo', ws', bs', a0', c0', a1', c1', rfl, hbk', hx', r0', r1', r2', r3', r4', f0', f1'⟩ := hat'.one hlt
      have HX := Lib.hid hx
      have HX' := Lib.hid hx'
      clear hat hat' hx hx' f0 f1 f0' f1' r3 r4 r3' r4'
      by_cases e1 : kd = kd'
      case neg =>
        have HS := Lib.hid (sameP_no (shp_ne HX.out HX'.out (fun e => e1 e.1)))
        have dn : (kd == kd') = false := beq_eq_false_iff_ne.2 e1
        have dn2 : (kd != kd') = true := by simpa using e1
        clear e1
        go_wp2_with fail
        go_quiet ((fail))
        have HB2 := Lib.hid (Below.next HB.out (below_drewN (Below.refl wr.heap.size wr) nq))
        go_wp2_with fail
        go_ret
        exact ⟨ret_b HS.out.symm, HB2.out⟩
      case pos =>
      by_cases e2 : ii = ii'
      case neg =>
        have HS := Lib.hid (sameP_no (shp_ne HX.out HX'.out (fun e => e2 e.2.1)))
        have dn : (ii == ii') = false := beq_eq_false_iff_ne.2 e2
        have dn2 : (ii != ii') = true := by simpa using e2
        subst e1
        clear e2
        go_wp2_with fail
        go_quiet ((fail))
        have HB2 := Lib.hid (Below.next HB.out (below_drewN (Below.refl wr.heap.size wr) nq))
        go_wp2_with fail
        go_ret
        exact ⟨ret_b HS.out.symm, HB2.out⟩
      case pos =>
      by_cases e3 : oo = oo'
      case neg =>
        have HS := Lib.hid (sameP_no (shp_ne HX.out HX'.out (fun e => e3 e.2.2)))
        have dn : (oo == oo') = false := beq_eq_false_iff_ne.2 e3
        have dn2 : (oo != oo') = true := by simpa using e3
        subst e1 e2
        clear e3
        go_wp2_with fail
        go_quiet ((fail))
        have HB2 := Lib.hid (Below.next HB.out (below_drewN (Below.refl wr.heap.size wr) nq))
        go_wp2_with fail
        go_ret
        exact ⟨ret_b HS.out.symm, HB2.out⟩
      case pos =>
        subst e1 e2 e3
        have HNX := Lib.hid (l10_next HE.out HX.out HX'.out rfl rfl rfl)
        go_wp2_with fail
        go_quiet ((fail))
        have HB2 := Lib.hid (Below.next HB.out (below_drewN (Below.refl wr.heap.size wr) nq))
        generalize wr.drewN nq = w2 at HB2 ⊢
        clear p0 q0 r0 r1 r2 r0' r1' r2'
        go_wp2_with fail
        go_roundw
        case rel => exact ⟨k + 1, by omega, by go_num, HNX.out, HB2.out⟩
        case measure => simp [intOf]; omega
    · obtain rfl : k = n := by omega
      have HS := Lib.hid (show sameB (parOf (ls.map LayA.p)) (parOf (ls'.map LayA.p)) = sameP (ls.map LayA.p) (ls'.map LayA.p) from sameP_par HV.out HV'.out (by
        have h1 := HE.out
        rw [List.take_of_length_le (by rw [HN.out]; exact Nat.le_refl _), List.take_of_length_le (by rw [HN'.out]; exact Nat.le_refl _)] at h1
        exact h1))
      have hat := H.out.kept HB.out
      rw [HN.out] at hat
      have HL := Lib.hid hat
      have HP0 := Lib.hid p0
      have hs1 := HB.out.size
      have HG1 := Lib.hid (show gp < wr.heap.size by have := G1.out; omega)
      have HG2 := Lib.hid (show gp' < wr.heap.size by have := G2.out; omega)
      have V6 := Lib.hid v2
      clear hs1 hat
      go_wp2_with fail
      refine (c_l03Params gp op g c k ls _ HG1.out HP0.out HL.out V3.out V6.out).mono ?_
      rintro e w2 ⟨ba, ca, rfl, ho, bl⟩
      have HO := Lib.hid ho
      have HB2 := Lib.hid (Below.next HB.out bl)
      have Q3 := Lib.hid (show w2.cell? ⟨gp', op', none⟩ = some (.slice g' k c') from (bl.cell HG2.out).trans q0)
      have HG3 := Lib.hid (show gp' < w2.heap.size from Nat.lt_of_lt_of_le HG2.out bl.size)
      have hat' := H'.out.kept HB2.out
      rw [HN'.out] at hat'
      have HL' := Lib.hid hat'
      clear ho bl hat' p0 q0
      go_wp2_with fail
      refine (c_l03Params gp' op' g' c' k ls' _ HG3.out Q3.out HL'.out V3'.out V6.out).mono ?_
      rintro e w3 ⟨bb, cb, rfl, ho2, bl⟩
      have HO2 := Lib.hid (flL_at.1 (OwnL.at _ (flL_own.2 ho2)))
      have HO1 := Lib.hid (flL_at.1 (OwnL.at _ (OwnL.kept (flL_own.2 HO.out) bl)))
      have HB3 := Lib.hid (Below.next HB2.out bl)
      clear ho2 bl
      go_wp2_with fail
      refine (c_SameAllA ba bb ca cb _ _ _ HO1.out HO2.out).mono ?_
      rintro e w4 ⟨rfl, dn⟩
      have HB4 := Lib.hid (Below.next HB3.out dn.below)
      clear dn
      rw [HS.out]
      go_wp2_with fail
      go_ret
      exact ⟨rfl, HB4.out⟩
end Go.Proofs.Ytaipegkkpkagnaa
