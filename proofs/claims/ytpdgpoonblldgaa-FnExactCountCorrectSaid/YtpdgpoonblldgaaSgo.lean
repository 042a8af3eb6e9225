/-
  StagesOf: what the model and the program answer. Conditions: the cells can be read.
-/
import Derived.Test.YtpdgpoonblldgaaStg
import Derived.Test.YtpdgpoonblldgaaApp
namespace Go.Proofs.Ytpdgpoonblldgaa
open Go.RowKit Go.Deep Go.WideShapes Go.ChangeShapes
set_option linter.unusedVariables false
set_option linter.unusedSimpArgs false

theorem vStages_yes {ps : List LayP} {z : List Nat} (h1 : vMod ps = true) (h2 : goesIn ps z.length = true) : vStagesOf ps z = (true, (List.range ps.length).map fun j => stageV ps z (j + 1)) := by
  unfold vStagesOf
  rw [h1, h2]
  rfl
theorem vStages_no {ps : List LayP} {z : List Nat} (h : vMod ps = false ∨ goesIn ps z.length = false) : vStagesOf ps z = (false, []) := by
  unfold vStagesOf
  rcases h with h | h
  · rw [h]; rfl
  · rw [h, Bool.and_false]; rfl
theorem goesIn_at {ps : List LayP} {m : Nat} {p : LayP} (h : ps[0]? = some p) : goesIn ps m = decide ((m : Int) = p.i) := by unfold goesIn; rw [h]
theorem stage_len8 {ps : List LayP} {z : List Nat} (h1 : vMod ps = true) (h2 : goesIn ps z.length = true) : ∀ j, j < ps.length → (stageV ps z (j + 1)).length ≤ 8 := by
  intro j hj
  have h0 : ps[0]? = some ps[0] := List.getElem?_eq_getElem (by omega)
  obtain ⟨p0, hp0⟩ : ∃ p, ps[0] = p := ⟨_, rfl⟩
  rw [hp0] at h0
  rw [goesIn_at h0, decide_eq_true_eq] at h2
  have hx : ps[j]? = some ps[j] := List.getElem?_eq_getElem hj
  have hl := stage_last h1 h0 h2 hx
  have hv := (vLay_iff _ _ _ _ _).1 (mod_one h1 hx)
  omega
theorem vStagesOf_len (ps : List LayP) (z : List Nat) : (vStagesOf ps z).2.length + cntZZ (vStagesOf ps z).2 ≤ 1048576 := by
  by_cases h : (vMod ps && goesIn ps z.length) = true
  · rw [Bool.and_eq_true] at h
    rw [vStages_yes h.1 h.2]
    have h6 := mod_len h.1
    have : ∀ n, n ≤ ps.length → cntZZ ((List.range n).map fun j => stageV ps z (j + 1)) ≤ n * 8 := by
      intro n
      induction n with
      | zero => intro _; simp [cntZZ]
      | succ n ih =>
        intro hn
        have h8 := stage_len8 h.1 h.2 n (by omega)
        have := ih (by omega)
        rw [List.range_succ, List.map_append]
        unfold cntZZ at *
        rw [List.map_append, List.sum_append]
        simp only [List.map_cons, List.map_nil, List.sum_cons, List.sum_nil]
        omega
    have := this ps.length (Nat.le_refl _)
    simp only [List.length_map, List.length_range]
    omega
  · unfold vStagesOf
    rw [if_neg h]
    simp [cntZZ]
theorem ss_side {w wr w1 w' : World} {gs a : Option Addr} {cp c : Nat} {z : List Nat} {ys : List FlA} {v : Value} (ho : OwnL wr w.heap.size [.sl 25 1 ys.length gs cp (ssC ys)]) (hl : Below w.heap.size w wr) (hb : Below wr.heap.size wr w1) (hm : OwnF w1 wr.heap.size a c z)
    (hg : (w1.alloc (.cells #[v] 25)).grownBy w' (Value.ownBlock (.slice gs ys.length cp))) : OwnF w' w.heap.size a c z := by
  rw [ownBlock_slice] at hg
  simp only [OwnL, Cl.Own, and_true] at ho
  have hlt := ownsRow_lt ho.1
  have ba : Below w1.heap.size w1 (w1.alloc (.cells #[v] 25)) := (Below.refl _ _).alloc (Nat.le_refl _) _
  have hnew := hm.lt
  refine ((hm.kept ba).apart hg (fun q h1 h2 => ?_)).base hl.size
  have e := hlt q (by rw [h2]; simp)
  have e2 := hnew q h1
  omega
theorem ss_made (w : World) : OwnL (w.alloc (.cells #[] 25)) w.heap.size [.sl 25 1 0 (some ⟨w.heap.size, 0, none⟩) 0 (ssC [])] ∧ (blL [.sl 25 1 0 (some ⟨w.heap.size, 0, none⟩) 0 (ssC [])]).Nodup := by
  refine ⟨?_, by simp [blL, Cl.bl, ssC, blk]⟩
  simp only [OwnL, Cl.Own, and_true, ssC, vs, List.map_nil]
  exact World.ownsRow_made w #[] 0 (Nat.le_refl _) (by unfold maxLen; omega) rfl
set_option maxRecDepth 20000 in
set_option maxHeartbeats 2000000 in
theorem c_takes (g : Option Addr) (c n : Nat) (y : List LayA) (m : Nat) (w : World) (h : LaysAt w g n c y) :
    Calls Try.prog 108 #[.agg #[.slice g n c], .int .i64 m] w fun e w' => e = .returned (.bool (vMod (y.map LayA.p) && goesIn (y.map LayA.p) m)) ∧ Below w.heap.size w w' := by
  have hln : y.length = n := h.1
  have al := (Below.refl w.heap.size w).alloc (Nat.le_refl _) (.cells #[.slice g n c] 36)
  have B0 := Lib.hid al
  have H0 := Lib.hid (h.kept al)
  have K0 := Lib.hid (Blk.new w 36 #[.slice g n c])
  cases hv : vMod (y.map LayA.p) with
  | false =>
    have HV := Lib.hid hv
    clear al h hv hln
    go_enter Try.func108, Try.ntmps108
    go_upto_region 1 with fail
    generalize w.alloc (.cells #[.slice g n c] 36) = w0 at B0 H0 K0 ⊢
    obtain ⟨p0, pl⟩ := tb1 K0.out
    go_wp2_with (go_at_call 84; refine (c_iValidModel g c n y false HV.out _ H0.out).mono ?_; rintro e w2 ⟨rfl, bl⟩; have B2 := Lib.hid (Below.next B0.out bl); clear bl)
    go_ret
    exact ⟨rfl, B2.out⟩
  | true =>
    have HV := Lib.hid hv
    have h6 := mod_len hv
    rw [List.length_map, hln] at h6
    obtain ⟨b, off, k, ii, oo, ws, bs, a0, c0, a1, c1, rfl, hbk, hx, q0, q1, q2, q3, q4, f0, f1⟩ := h.one (show 0 < n by omega)
    have hx' := at_map hx
    have HG := Lib.hid (show (true && goesIn (y.map LayA.p) m) = decide ((ii : Int) = (m : Int)) by
      rw [goesIn_at hx', Bool.true_and]
      exact decide_eq_decide.2 eq_comm)
    rw [Nat.zero_mul, Nat.add_zero] at q1
    have Q := Lib.hid q1
    have HBK := Lib.hid hbk
    have n1 : (0 : Int) < (n : Int) := by omega
    clear al h hv hln h6 hx hx' q0 q1 q2 q3 q4 f0 f1 hbk
    go_enter Try.func108, Try.ntmps108
    go_upto_region 1 with fail
    generalize w.alloc (.cells #[.slice (some ⟨b, off, none⟩) n c] 36) = w0 at B0 H0 K0 ⊢
    obtain ⟨p0, pl⟩ := tb1 K0.out
    go_wp2_with (go_at_call 84; refine (c_iValidModel (some ⟨b, off, none⟩) c n y true HV.out _ H0.out).mono ?_; rintro e w2 ⟨rfl, bl⟩; have B2 := Lib.hid (Below.next B0.out bl); have K2 := Lib.hid (K0.out.below bl); have r1 := (B2.out.cell (p := ⟨b, off + 1, none⟩) HBK.out).trans Q.out; clear bl p0 pl; obtain ⟨p0, pl⟩ := tb1 K2.out)
    go_ret
    rw [HG.out]
    exact ⟨rfl, B2.out⟩
theorem c_l03In (gp op : Nat) (g : Option Addr) (c n : Nat) (y : List LayA) (p : LayP) (w : World) (hq : w.cell? ⟨gp, op, none⟩ = some (.slice g n c)) (h : LaysAt w g n c y) (hx : (y.map LayA.p)[0]? = some p) :
    Calls Try.prog 49 #[.pointer (some ⟨gp, op, none⟩)] w fun e w' => e = .returned (.int .i64 p.i) ∧ w = w' := by
  have hn : 0 < n := by
    have := (List.getElem?_eq_some_iff.1 hx).1
    rw [List.length_map, h.1] at this
    exact this
  obtain ⟨b, off, k, ii, oo, ws, bs, a0, c0, a1, c1, rfl, hbk, hy, q0, q1, q2, q3, q4, f0, f1⟩ := h.one hn
  have e := at_map hy
  rw [hx] at e
  cases e
  rw [Nat.zero_mul, Nat.add_zero] at q1
  have n1 : (0 : Int) < (n : Int) := by omega
  dsimp only
  clear h hx hy q0 q2 q3 q4 f0 f1 hn
  go_enter Try.func49, Try.ntmps49
  go_wp2
  go_ret
  exact ⟨rfl, rfl⟩
end Go.Proofs.Ytpdgpoonblldgaa
